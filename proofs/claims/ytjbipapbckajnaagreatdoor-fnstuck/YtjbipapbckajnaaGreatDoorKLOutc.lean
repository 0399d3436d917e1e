import Derived.Test.YtjbipapbckajnaaGreatDoorKLSame
import Derived.Deep.RegionHeldLaw
import Derived.Test.YtjbipapbckajnaaGreatDoorKCLead
set_option maxRecDepth 100000
set_option maxHeartbeats 25600000
namespace Go.Proofs.YtjbipapbckajnaaGreatDoor
open Go.RowKit Go.Proofs.Tryz
def z_(v:Pw)(n:Nat):Prop:=∃g c,v= .b g n c
theorem tO{w:Pv}{base size:Nat}{e:TypeId}{v:Pw}{n:Nat}{xs:List Pw}(h:w.ownsRow base e size v n xs)(c:0<n):z_ v n:=by
 rcases h.2 with⟨_,e⟩|⟨g,b,d,e,_⟩
 .omega
 .exact⟨g,b,e⟩
def zZ(w w':Pv)(rb:Nat)(a:Pt)(cap:Nat)(bs:List UInt8)(p:Nat)(e:Ending):Prop:=
 ∃(g c:Nat) (l:List Ps) (p':Nat),e= .returned (.b g l.length c)/\l.length<=c/\l.length<=12/\(∀x∈l,x.size<=300)/\fA w' 9 (some ⟨g,0,none⟩) l/\p<=p'/\p'<=p+20/\Rd w' rb a cap bs p'/\Xk rb (rb+1) w w'
section
variable {W wr : Pv} {rb : Nat} {a : Pt} {cap : Nat} {bs : List UInt8} {p q : Nat} {v : Pw} {l : List Ps}
theorem OSt.Kk(h:OSt W wr rb a cap bs q v l)(d:z_ v l.length)(f:l.length<=12)(i:p<=q)(h2:q<=p+20):zZ W wr rb a cap bs p (.returned v):=by
 obtain⟨n,c,e,j,k⟩:=di h.own;obtain⟨g,m,b⟩:=d;rw[b] at e;simp only[OG] at e;obtain⟨rfl,_,rfl⟩:=e;exact⟨g,m,l,q,by rw[b],j,f,h.sz,k,i,h2,h.rd,h.kb⟩
theorem OSt.front{w2:Pv}{d:Pw}{x:Ps}(h:OSt W wr rb a cap bs q v l)(k:K_ wr w2)(e:w2.ownsRow W.heap.size 9 1 d (1+l.length) ([.string x]++l.map Value.string))(f:x.size<=300):OSt W w2 rb a cap bs q d (x :: l):=by
 refine⟨h.rd.kept k,h.rd0,h.kb.gp k,by rw[OH,Nat.add_comm];exact e,λy c=>?_⟩;rcases OL.1 c with rfl | c
 .exact f
 .exact h.sz y c
theorem OSt.strs(h:OSt W wr rb a cap bs q v l):∃sa c,v= .slice sa l.length c/\l.length<=c/\fA wr 9 sa l:=di h.own
theorem Et{l:List Ps}{i:Nat}(hi:i<=26)(h:∀j,j<i->lm j∈l):i<=l.length:=by
 have b:((List.range i).map lm).Nodup:=by
  rw[List.Nodup,List.pairwise_map];refine List.Pairwise.imp_of_mem ?_ List.pairwise_lt_range;intro x y a c f d;have k:=List.mem_range.1 a;have m:=List.mem_range.1 c;have:=Fg A7 A7 d;omega
 have:=List.Nodup.length_le_of_subset b (l₂:=l) (λx a=>by
  obtain⟨j,e,rfl⟩:=Oq.1 a;exact h j (List.mem_range.1 e))
 simpa using this
end
theorem GZ(w:Pv)(rb:Nat)(a:Pt)(cap:Nat)(bs:List UInt8)(p:Nat)(T:Pt)(A:Nat)(L:List Qq)(hR:Rd w rb a cap bs p)(hp:p<=900000)(U:bs.length<=2000)(hN:bM w (.slice T L.length A) L)(hL:L.length<=100000)(B:∀d∈L,d.name.size<=300):
  Calls prog 54 #[.c rb,.agg #[.slice T L.length A]] w λe w'=>zZ w w' rb a cap bs p e:=by
 obtain⟨C,Z⟩:=ai (w.alloc (.cells #[.slice T L.length A] 25));have kB:K_ w C:=by rw[Z];exact ah _ _
 have b0:C.cell? ⟨w.heap.size,0,none⟩=some (.slice T L.length A):=by rw[Z];exact Xz w _ _ 0 _ rfl
 have a9:w.heap.size<C.heap.size:=by rw[Z];simp
 have f:=Kz (OSt.made hR (hR.kept kB) (.au kB));have h:K_ C (C.alloc (.cells #[] 9)):=ah _ _;have b7:J4 (C.alloc (.cells #[] 9)) w.heap.size 0 (.slice T L.length A):=(h.cell a9).trans b0;have b1:=Kz (hN.nodes.kept (kB.trans h));go_enter func54,ntmps54
 have b8:w.heap.size<(C.alloc (.cells #[] 9)).heap.size:=NR a9 h.size;rw[Z] at b7 f b1 b8;rw[OC] at f;clear h kB b0 a9 hN Z C;go_upto_if 13 with fail
 have b9:z_ (.b (w.heap.size+1) 0 0) 0:=⟨_,_,rfl⟩;go_cut [5] from 13 to 25 (λs5 wx=>∃l:List Ps,OSt w wx rb a cap bs p s5 l/\z_ s5 l.length/\l.length<=1)
 case first=>
  by_cases f2:0<L.length
  .have hk:L.length-1<L.length:=A7;obtain⟨nb,no,cs,e1,f3,b2,c0⟩:=b1.out (L.length-1) hk;obtain⟨x,I⟩:=ai ((L.getD (L.length-1) Qq.zero).name);have d4:x.size<=300:=by
    rw[I];simp only[List.getD,NV hk,Ph];exact B _ (Oa hk)
   obtain⟨b3,hm⟩:=ai (L.length-1);rw[<-hm] at b2 I c0;obtain⟨sa,sc,e2,_⟩:=c0;have f4:J4 ((w.alloc (.cells #[.slice T L.length A] 25)).alloc (.cells #[] 9)) nb (no+b3*3) (.string x):=by
    have:=b2 0 (.string x) (by rw[e2,I];rfl);simpa using this
   have e5:(L.length:Int)-1= (b3:Int):=A7;have e6:(b3:Int)<(L.length:Int):=A7;subst e1;have K1:K_ ((w.alloc (.cells #[.slice (some ⟨nb,no,none⟩) L.length A] 25)).alloc (.cells #[] 9)) (((w.alloc (.cells #[.slice (some ⟨nb,no,none⟩) L.length A] 25)).alloc (.cells #[] 9)).alloc (.cells #[.string x] 9)):=ah _ _;have D:=Kz K1;have E:=Kz (f.o.kept K1).own;have J:=(f.o.kept K1).kb.size;obtain⟨K,M,N,O,P⟩:=aS Tryz.gM;clear I hm b2 e2 hk K1;go_wp2_with (at_builtin;refine wpList_append_own _ rfl (.tmp 14) (.tmp 24) 26 rfl w.heap.size 9 K _ 1 16 underlying26 M N O P rfl A8 (.b (w.heap.size+1) 0 0) 0 [] rfl E.o ⟨w.heap.size+2,0,none⟩ 1 1 [.string x] rfl rfl (by simpa using lK ((w.alloc (.cells #[.slice (some ⟨nb,no,none⟩) L.length A] 25)).alloc (.cells #[] 9)) x) (kY x) D5 A7 J ?_;intro v' w2 k t _;have Q:=Kz (f.o.push D.o k t d4);have R:=tO k A7;clear k t)
   go_meet
   exact⟨[x],Q.o,R,NQ _⟩
  .go_wp2
   go_meet
   exact⟨[],f.o,b9,NS _⟩
 case rest=>
  obtain⟨l0,F,G,hl⟩:=hcut;have⟨b4,c1⟩:=aH F G;clear F G f b9 b1 b7 b8;go_wp2_with fail
  refine (aM _ rb a cap bs p _ 4 rfl b4.o.rd A7 A7 U).mono ?_;rintro e w2 ⟨a5,rfl,hn,c2,c3⟩;have c4:=Kz (b4.o.drawn c2 c3);clear c2 c3 b4;go_wp2
  go_loopg [5,6] a5 (λg a0 x6 wr=>∃(p':Nat) (l:List Ps),x6= .a (g:Int)/\g<=a5/\p<=p'/\p'+2*g<=p+1+2*a5/\l.length+g<=1+a5/\OSt w wr rb a cap bs p' a0 l/\z_ a0 l.length)
  case atStart=>exact⟨p+1,l0,rfl,NQ _,A7,A7,A7,c4.o,c1.o⟩
  case round=>
   clear c4 c1 hl;obtain⟨z,l,rfl,hg,f5,d5,d6,F,G⟩:=hrel;have⟨f,V⟩:=aH F G;obtain⟨a1,oc,rfl⟩:=G;clear F;by_cases f6:(0:Int)<(gk:Int)
   .go_wp2_with fail
    refine (aM _ rb a cap bs z _ 12 rfl f.o.rd A7 A7 U).mono ?_;rintro e w3 ⟨v,rfl,d7,a2,a3⟩;have y:=Kz (f.o.drawn a2 a3);clear a2 a3 f;go_wp2_with fail
    refine (jK _ v _ rfl A7).mono ?_;rintro e w4 ⟨x0,rfl,f7,k4⟩;have r:=Kz (y.o.kept k4);clear k4 y;go_wp2_with fail
    refine (aM _ rb a cap bs (z+1) _ 10 rfl r.o.rd A7 A7 U).mono ?_;rintro e w5 ⟨q5,rfl,f8,c5,c6⟩;have H:=Kz (r.o.drawn c5 c6);clear c5 c6 r;go_upto_if 37 with fail
    go_cut [7] from 37 to 38 (λs7 wx=>∃x:Ps,s7= .string x/\x.size<=300/\wx=w5)
    case first=>
     by_cases h5:q5=0
     .have e5:((q5:Int) == 0)=true:=by simp[h5]
      clear h5;go_wp2
      go_meet
      exact⟨_,rfl,A8,rfl⟩
     .have e5:((q5:Int) == 0)=false:=by simpa using h5
      clear h5;go_wp2
      go_meet
      exact⟨_,rfl,A7,rfl⟩
    case rest=>
     obtain⟨x,rfl,I,rfl⟩:=hcut;have a6:Hid (Strs wc (some ⟨a1,0,none⟩) l):=by
      obtain⟨sa,c,e,_,B⟩:=H.o.strs;simp only[OG] at e;obtain⟨rfl,_,_⟩:=e;exact B.strs
     go_wp2_with fail
     refine (uP _ (some ⟨a1,0,none⟩) oc l x A7 a6.o).mono ?_;rintro e s ⟨b5,rfl⟩;rcases b5.cases with⟨rfl,_⟩|⟨rfl,_⟩
     .go_wp2
      go_roundg (gk-1)
      case measure=>omega
      case rel=>exact⟨z+2,l,C8,A7,A7,A7,A7,H.o,V.o⟩
     .obtain⟨K,M,N,O,P⟩:=aS Tryz.gM;have h:K_ s (s.alloc (.cells #[.string x] 9)):=ah _ _;have D:=Kz h;have E:Hid ((s.alloc (.cells #[.string x] 9)).ownsRow s.heap.size 9 1 (.b s.heap.size 1 1) 1 ([x].map Value.string)):=World.ownsRow_lit s #[.string x] 1 (NQ _) A8 rfl;have d8:Hid (∀j u,(l.map Value.string)[j]? =some u->(s.alloc (.cells #[.string x] 9)).cell? ((⟨a1,0,none⟩:Addr).add j)=some u):=λj u hu=>by
       have W:j<l.length:=by have:=(NW.1 hu).1;simpa using this
       obtain⟨b,o,e,hb,S⟩:=(a6.o.kept D.o) j W;simp only[OE] at e;rw[e,OI,S];simp[W] at hu;simp[List.getD,W,hu]
      have d9:Hid (∀u∈l.map Value.string,u.oneCell'=true):=λu hu=>by obtain⟨c7,_,rfl⟩:=Oq.1 hu;rfl
      have J:s.heap.size<=(s.alloc (.cells #[.string x] 9)).heap.size:=h.size;have e0:=Kz H.o.kb.size;clear h;go_wp2_with (at_builtin;refine wpList_append_own _ rfl (.tmp 43) (.tmp 44) 26 rfl s.heap.size 9 K _ 1 16 underlying26 M N O P rfl A8 (.b s.heap.size 1 1) 1 ([x].map Value.string) rfl E.o ⟨a1,0,none⟩ l.length oc (l.map Value.string) rfl A9 d8.o d9.o D5 A7 J ?_;intro v' n k t _;have Q:=Kz (H.o.front (aL D.o (NQ _) E.o t) (gQ k e0.o) I);have R:=tO k A7;clear k t)
      go_roundg (gk-1)
      case measure=>omega
      case rel=>exact⟨z+2,x :: l,C8,A7,A7,A7,by rw[OH];omega,Q.o,by rw[OH,Nat.add_comm];exact R⟩
   .have e3:l.length<=5:=A7;have f9:z<=p+7:=A7;clear d6 d5;go_wp2_with fail
    refine (aM _ rb a cap bs z _ 50 rfl f.o.rd A7 A7 U).mono ?_;rintro e w3 ⟨v,rfl,d7,a2,a3⟩;have y:=Kz (f.o.drawn a2 a3);clear a2 a3 f;by_cases h0:v=0
    .have e4:((v:Int) == 0)=true:=by simp[h0]
     obtain⟨p0,c8⟩:=y.o.rd0;have HE:=Kz (OSt.made c8 y.o.rd y.o.kb);clear c8;clear h0;go_wp2
     go_ret
     exact OSt.Kk HE.o ⟨_,_,rfl⟩ A9 A7 A7
    have e4:((v:Int) == 0)=false:=by simpa using h0
    clear h0;by_cases h1:v=1
    .have e1:((v:Int) == 1)=true:=by simp[h1]
     clear h1;have K3:K_ w3 (w3.alloc (.cells #[.string ⟨#[]⟩,.string ⟨#[45]⟩,.string ⟨#[103,111,110,101]⟩] 9)):=ah _ _;have r:=Kz (y.o.kept K3);clear K3;go_wp2_with fail
     refine (aM _ rb a cap bs (z+1) _ 3 rfl r.o.rd A7 A7 U).mono ?_;rintro e n ⟨q,rfl,hq,c9,a7⟩;have H:=Kz (r.o.drawn c9 a7);obtain⟨c,S,e7⟩:=Bh [⟨#[]⟩,⟨#[45]⟩,⟨#[103,111,110,101]⟩] a7 y.o.rd.row.lt q (by show q<3;omega) (by
      intro c S;simp only[OL,OM,or_false] at S;rcases S with rfl | rfl | rfl <;> decide)
     have lz:w3.heap.size<n.heap.size:=NR A9 a7.size;have g0:(q:Int)<3:=A7;have h:K_ n (n.alloc (.cells #[.string c] 9)):=ah _ _;have D:=Kz h;have E:=Kz (H.o.kept h).own;have J:w.heap.size<=(n.alloc (.cells #[.string c] 9)).heap.size:=(H.o.kept h).kb.size;obtain⟨K,M,N,O,P⟩:=aS Tryz.gM;clear c9 a7 r h;go_wp2_with (at_builtin;refine wpList_append_own _ rfl (.tmp 53) (.tmp 59) 26 rfl w.heap.size 9 K _ 1 16 underlying26 M N O P rfl A8 (.b a1 l.length oc) l.length (l.map Value.string) rfl E.o ⟨n.heap.size,0,none⟩ 1 1 [.string c] rfl rfl (lK n c) (kY c) D5 A7 J ?_;intro v' w8 k t _;have Q:=Kz (H.o.push D.o k t e7);have R:=tO k A7;clear k t)
     go_ret
     exact OSt.Kk Q.o (by rw[OD];exact R) H8 A7 A7
    have e1:((v:Int) == 1)=false:=D6;clear h1;by_cases h2:v=2
    .have e2:((v:Int) == 2)=true:=by simp[h2]
     clear h2;go_wp2
     go_loopg [5,8] 11 (λg a0 x8 wr=>∃(i:Nat) (l:List Ps),x8= .a (i:Int)/\i+g=11/\l.length<=11/\Hid (∀j,j<i->lm j∈l)/\OSt w wr rb a cap bs (z+1) a0 l/\z_ a0 l.length)
     case atStart=>exact⟨0,l,rfl,rfl,A7,Kz (λj W=>A7),y.o,V.o⟩
     case round=>
      clear y V e3;obtain⟨i,m,rfl,hi,e8,HJ,F,G⟩:=hrel;have⟨f,V⟩:=aH F G;obtain⟨pb,pc,rfl⟩:=G;have g1:i<=m.length:=Et A7 HJ.o;clear F;by_cases d0:(m.length:Int)<11
      .go_wp2_with fail
       refine (xn _ i A7).mono ?_;rintro e w4 ⟨x,rfl,I,a4,k4⟩;have r:=Kz (f.o.kept k4);have HX:=Kz (a4 A7);clear k4 a4;have a6:Hid (Strs w4 (some ⟨pb,0,none⟩) m):=by
        obtain⟨sa,c,e,_,B⟩:=r.o.strs;simp only[OG] at e;obtain⟨rfl,_,_⟩:=e;exact B.strs
       go_wp2_with fail
       refine (uP _ (some ⟨pb,0,none⟩) pc m x A7 a6.o).mono ?_;rintro e s ⟨b5,rfl⟩;rcases b5.cases with⟨rfl,X⟩|⟨rfl,X⟩
       .have e9:Hid (∀j,j<i+1->lm j∈m):=λj W=>by
         by_cases e:j=i
         .rw[e,<-HX.o];exact X
         .exact HJ.o j A7
        clear X;go_wp2
        go_roundg (gk-1)
        case measure=>omega
        case rel=>exact⟨i+1,m,C8,A7,e8,e9,r.o,V.o⟩
       .clear X;go_wp2_with fail
        refine (xn _ i A7).mono ?_;rintro e n ⟨Y,rfl,g2,a4,k7⟩;have f0:=Kz (a4 A7);have b6:=Kz (r.o.kept k7);have h:K_ n (n.alloc (.cells #[.string Y] 9)):=ah _ _;have D:=Kz h;have E:=Kz (b6.o.kept h).own;have J:w.heap.size<=(n.alloc (.cells #[.string Y] 9)).heap.size:=(b6.o.kept h).kb.size;obtain⟨K,M,N,O,P⟩:=aS Tryz.gM;clear k7 h a4 r;go_wp2_with (at_builtin;refine wpList_append_own _ rfl (.tmp 73) (.tmp 76) 26 rfl w.heap.size 9 K _ 1 16 underlying26 M N O P rfl A8 (.b pb m.length pc) m.length (m.map Value.string) rfl E.o ⟨n.heap.size,0,none⟩ 1 1 [.string Y] rfl rfl (lK n Y) (kY Y) D5 A7 J ?_;intro v' w8 k t _;have Q:=Kz (b6.o.push D.o k t A7);have R:=tO k A7;clear k t)
        go_roundg (gk-1)
        case measure=>omega
        case rel=>exact⟨i+1,m++ [Y],C8,A7,H8,Kz (λj W=>by
         by_cases e:j=i
         .rw[e,<-f0.o];simp
         .exact List.mem_append_left _ (HJ.o j A7)),Q.o,by rw[OD];exact R⟩
      .have d1:m.length=11:=A7;have HL:=Kz d1;have g3:11<=pc:=by
        obtain⟨sa,c,e,S,B⟩:=f.o.strs;simp only[OG] at e;obtain⟨_,_,rfl⟩:=e;omega
       have g4:¬(m.length:Int)<11:=d0;clear d1 d0;go_wp2_with fail
       refine (aM _ rb a cap bs (z+1) _ 2 rfl f.o.rd A7 A7 U).mono ?_;rintro e w8 ⟨q8,rfl,g5,d2,d3⟩;have a8:=Kz (f.o.drawn d2 d3);have g6:(10:Int)+ (q8:Int)<=(pc:Int):=A7;clear d2 d3 f;go_wp2
       go_ret
       obtain⟨sa,c,e,S,B⟩:=a8.o.strs;simp only[OG] at e;obtain⟨rfl,_,rfl⟩:=e;have f1:(m.take (10+q8)).length=10+q8:=by rw[Oo,HL.o];omega
       exact⟨pb,pc,m.take (10+q8),z+2,by rw[f1];congr 2 <;> omega,A7,A7,λc7 X=>a8.o.sz c7 (List.mem_of_mem_take X),B.take _,A7,A7,a8.o.rd,a8.o.kb⟩
    have e2:((v:Int) == 2)=false:=D6;clear h2;go_wp2
    go_ret
    exact OSt.Kk y.o V.o A7 A7 A7
variable {w : Pv}
theorem dQ{P:Program}{fn:Func}{R:Ending->Pv->Prop}{a:Act}{p q:Tmp}{c:TypeId}{b:Nat}(cs:List Pw)(d:TypeDesc)(v:Pw)(h:fn.results= #[.cell p c,.tmp q])
 (e:a.tmps.getD p undef= .c b) (f:w.rangeAt b 0 cs) (i:P.underlying c=some d) (j:d.isRow=true) (hi:(P.info? c).map (·.size)=some cs.length)
 (k:a.tmps.getD q undef=v) (l:a.defers=[]) (m:R (.returned (.tuple #[.agg cs.toArray,v])) w):bodyPost P fn R .ret a w:=by
 refine bodyPost_ret ?_ l m;have n:a.tmps[p]?.getD undef= .c b:=by simpa using e
 have r:a.tmps[q]?.getD undef=v:=by simpa using k
 simp only[results,h];simp[n,r,asAddr,run_loadVar_mid w b 0 c cs d f i j hi]
def KJ(l:List Qq)(p:Nat):List Qq:=l.take p++l.drop (p+1)
def bZ(key:List UInt8)(d:Qq):Bool:= !(d.name.toList == key)
theorem uN(f:Qq->Bool)(l:List Qq)(k:Nat)(h:k<l.length):(l.take (k+1)).filter f= (l.take k).filter f++ (if f (l.getD k Qq.zero)=true then [l.getD k Qq.zero] else []):=by
 rw[NY h,List.filter_append]
 congr 1
 have e:l.getD k Qq.zero=l[k]:=by simp[List.getD,h]
 rw[e];by_cases b:f l[k]=true
 .simp[b]
 .simp[b]
theorem nH(d:Qq)(a:Pt)(c:Nat):∀u∈([.string d.name,.a d.cost,.slice a d.steps.length c]:List Pw),u.oneCell'=true:=by
 intro u b;simp only[OL,OM,or_false] at b;rcases b with rfl | rfl | rfl <;> rfl
variable {mN : Nat}
theorem AC(w:Pv)(cost:Int)(a:Pt)(cap:Nat)(l:List Xj)(h:mN<=1000)(m:l.length<=21)(i:∀s∈l,s.TinyN mN)(j:kW w a l):
  Calls prog 193 #[.agg #[.a cost,.slice a l.length cap]] w λe w'=>∃b c,e= .returned (.agg #[.a cost,.slice b l.length c])/\dB w' (.slice b l.length c) l/\K_ w w':=by
 refine (Ec w cost a cap l A7 h i j).mono ?_;rintro e w' ⟨v,p,rfl,d,f,k⟩;obtain⟨b,c,rfl⟩:=ay d;exact⟨b,c,rfl,(StW.gN d f.packed f.oP).g,k⟩
structure Fx (w wr w6:Pv) (a0:Pt) (n cap:Nat):Prop where
 kept:K_ w w6
 size:w.heap.size+3<=w6.heap.size
 arg:w6.cell? ⟨w.heap.size,0,none⟩=some (.slice a0 n cap)
 res:aB w6 (w.heap.size+1) 25 1
 out:aB w6 (w.heap.size+2) 25 1
 below:Below (w.heap.size+3) wr w6
variable {xs : List Pw} {cap cv m n : Nat} {av : Pt} {w6 wr : Pv}
theorem Fx.of{W:Pv}{c:Pt}(f:K_ w wr)(h:w.heap.size+3<=wr.heap.size)(b:K_ wr W)
 (i:wr.cell? ⟨w.heap.size,0,none⟩=some (.slice c n cap)) (j:aB wr (w.heap.size+1) 25 1) (k:aB wr (w.heap.size+2) 25 1)
 (d:W.ownsRow (w.heap.size+3) 88 3 (.slice av m cv) m xs) (e:W.grownBy w6 (Value.slice av m cv).ownBlock):Fx w wr w6 c n cap:=by
 have q:=b.size;have a:Below (w.heap.size+3) wr w6:=(Below.mono b A7).trans (Below.grown (Below.refl _ _) e A7 (λg l=>(d.lt g l).1));refine⟨aL (f.trans b) A7 d e,NT h a.size, ?_,j.block (a.block _ A7),k.block (a.block _ A7),a⟩;rw[Below.cell a (p:=⟨w.heap.size,0,none⟩) D7];exact i
variable {l : List Qq} {base : Nat} {d : Qq}
theorem Fs{W w2:Pv}{a:Nat}{b:Pt}(e:K_ wr W)(f:K_ w2 W)(h:dC wr xs l)(i:dB w2 (.slice b d.steps.length a) d.steps)
 (j:W.ownsRow base 88 3 (.slice av m cv) m xs) (k:W.grownBy w6 (Value.slice av m cv).ownBlock):dC w6 (xs++ [.string d.name,.a d.cost,.slice b d.steps.length a]) (l++ [d]):=by
 have c:aC 88 W w6:=aC.aI j k;exact (h.same ((aC.au e).trans c) A8 A8 A8).snoc (i.same ((aC.au f).trans c) A8 A8 A8)
theorem tK(w:Pv)(r:Pt)(cap:Nat)(l:List Qq)(key:Ps)(b6:mN<=1000)(hl:l.length<=1000)(hs:∀d∈l,d.TinyN mN)(hS:uA w r l):
  Calls prog 162 #[.agg #[.slice r l.length cap],.string key] w λe w'=>∃a c xs base,e= .returned (.agg #[.slice a (l.filter (bZ key.toList)).length c])/\w.heap.size<=base/\w'.ownsRow base 88 3 (.slice a (l.filter (bZ key.toList)).length c) (l.filter (bZ key.toList)).length xs/\dC w' xs (l.filter (bZ key.toList))/\K_ w w':=by
 go_enter func162,ntmps162
 go_wp2
 have Y:K_ w (((w.alloc (.cells #[.slice r l.length cap] 25)).alloc (.cells #[J3] 25)).alloc (.cells #[J3] 25)):=((ah _ _).alloc _).alloc _;go_loopw [6] (λJ wr=>∃(k m:Nat) (b:Pt) (f:Nat) (xs:List Pw),k<=l.length/\J= .a k/\K_ w wr/\w.heap.size+3<=wr.heap.size/\wr.cell? ⟨w.heap.size,0,none⟩=some (.slice r l.length cap)/\aB wr (w.heap.size+1) 25 1/\aB wr (w.heap.size+2) 25 1/\
   wr.cell? ⟨w.heap.size+2,0,none⟩=some (.slice b m f)/\m= ((l.take k).filter (bZ key.toList)).length/\wr.ownsRow (w.heap.size+3) 88 3 (.slice b m f) m xs/\dC wr xs ((l.take k).filter (bZ key.toList))) (λJ _=>l.length-(intOf J).toNat)
 case atStart=>
  have E:=Xz ((w.alloc (.cells #[.slice r l.length cap] 25)).alloc (.cells #[J3] 25)) #[J3] 25;simp only[OC] at E;refine⟨0,0,none,0,[],NS _,rfl,Y, ?_, ?_, ?_, ?_,E 0 _ rfl,rfl,OO _ _ _ _,dC.nil _⟩
  .simp only[OC];omega
  .rw[K_.cell (w:=w.alloc (.cells #[.slice r l.length cap] 25)) ((ah _ _).alloc _) A9];exact Xz w _ _ 0 _ rfl
  .exact aB.kept (by have:=aB.made (w.alloc (.cells #[.slice r l.length cap] 25)) #[J3] 25;simpa using this) (ah _ _)
  .have:=aB.made ((w.alloc (.cells #[.slice r l.length cap] 25)).alloc (.cells #[J3] 25)) #[J3] 25;simpa using this
 case round=>
  clear Y;obtain⟨k,m,b,f,xs,hk,rfl,t,Z,F,a0,a1,L,M,a2,hP⟩:=hrel;have d4:w.heap.size<wr.heap.size:=A7;have⟨x,a3,G,H,I⟩:=jH a0 a1 a2 hP M;have d5:m<=l.length:=by rw[M];exact NT (List.length_filter_le _ _) E9
  clear a0 a1 a2 hP M;by_cases N:k<l.length
  .obtain⟨B,h,O,P,b7,a4,a5,a6⟩:=hS k N;have y:=t.range a4 a5;have a7:=a6.kept t;subst b7;have d6:B<wr.heap.size:=NR a4 t.size;clear a5 a6;have Q:=hs (l.getD k Qq.zero) (by simp[List.getD,N]);have R:=uN (bZ key.toList) l k N;obtain⟨d,a8⟩:=ai (l.getD k Qq.zero);rw[<-a8] at y a7 Q R;have a9:=Kz R;have S:=y 0 _ rfl;have c1:=y 1 _ rfl;have c2:=y 2 _ rfl;rw[OJ] at S;clear y a8 R;cases b0:(d.name.toList == key.toList)
   .have z:Hid (∀w',Below (w.heap.size+3) wr w'->w'.cell? ⟨w.heap.size+2,0,none⟩=some (.slice b m f)/\w'.cell? ⟨w.heap.size,0,none⟩=some (.slice (some ⟨B,h,none⟩) l.length cap)/\w'.cell? ⟨B,h+k*3,none⟩=some (.string d.name)/\w'.cell? ⟨B,h+k*3+1,none⟩=some (.a d.cost)/\w'.cell? ⟨B,h+k*3+2,none⟩=some (.slice O d.steps.length P)):=λw' A=>⟨(Below.cell A (p:=⟨w.heap.size+2,0,none⟩) A9).trans L,(Below.cell A (p:=⟨w.heap.size,0,none⟩) D7).trans F,(Below.cell A (p:=⟨B,h+k*3,none⟩) D7).trans S,(Below.cell A (p:=⟨B,h+k*3+1,none⟩) D7).trans c1,(Below.cell A (p:=⟨B,h+k*3+2,none⟩) D7).trans c2⟩
    have d7:w.heap.size+2<wr.heap.size:=A7;obtain⟨b8,b9,c0,c3,c4⟩:=info_parts Tryz.nL;go_wp2
    refine Qx.region C9 (λw'=>w'.cell? ⟨w.heap.size+2,0,none⟩=some (.slice b m f)/\w'.cell? ⟨w.heap.size,0,none⟩=some (.slice (some ⟨B,h,none⟩) l.length cap)/\w'.cell? ⟨B,h+k*3,none⟩=some (.string d.name)/\w'.cell? ⟨B,h+k*3+1,none⟩=some (.a d.cost)/\w'.cell? ⟨B,h+k*3+2,none⟩=some (.slice O d.steps.length P)) 19 ⟨L,F,S,c1,c2⟩ (λi=>?_);refine ax 0 i ?_;refine ax 4 i ?_;refine ax 8 i ?_;refine ae 12 i ?_;refine ae 13 i ?_;refine aF 14 (λK n=>?_);go_simp
    go_at_call 193
    refine (AC _ d.cost O P d.steps b6 Q.steps Q.each (a7.kept G7)).mono ?_;rintro e q ⟨C,D,rfl,b1,k2⟩;have T:K_ wr q:=K_.trans G7 k2;have b2:Below (w.heap.size+3) wr q:=Below.mono T A7;have d8:=T.size;have d9:w.heap.size+2<q.heap.size:=A7;have c5:=Kz b1;clear b1 k2;dsimp only;refine n.out _ _ (λ_=>z.o q b2) ?_;clear n K i;have i:=z.o q b2;try simp only[upP]
    refine ae 15 i ?_;refine aj 16 (λK n=>?_);go_simp
    have v:K_ wr (q.alloc (.cells #[.string d.name,.a d.cost,.slice C d.steps.length D] 88)):=T.alloc _;refine af n (λ_=>z.o _ (Below.mono v A7)) ?_;clear n K i;refine aj 17 (λK n=>?_);refine step_append_lies _ rfl (.tmp 24) (.tmp 39) 23 rfl (w.heap.size+3) 88 b8 _ 3 48 underlying23 b9 c0 c3 c4 rfl A8 (.slice b m f) m xs D9 (ak G.o v) ⟨q.heap.size,0,none⟩ 1 1 [.string d.name,.a d.cost,.slice C d.steps.length D] D9 rfl (λj u hu=>by rw[OI];exact Xz q #[.string d.name,.a d.cost,.slice C d.steps.length D] 88 j u (by simpa using hu)) (nH d C D) A7 D5 A7 D6 _ rfl ?_;intro g c6 w6 b3 U c7 e0;have b4:K_ q (q.alloc (.cells #[.string d.name,.a d.cost,.slice C d.steps.length D] 88)):=ah _ _;have V:=ak G.o v;have W:=Kz (Fx.of t Z v F x.o a3.o V U);have c8:=Kz (Fs v b4 H.o c5.o V U);have c9:=Kz b3;have b5:Below (w.heap.size+3) wr w6:=W.o.below;have X:=W.o.out.row.at (i:=0) A7;have e1:=X.2;obtain⟨vo,e2⟩:=X.1;clear X v b4 V b3 U c7;refine af n (λ_=>z.o _ b5) ?_;clear n K;have i:=z.o _ b5;refine ae 18 i ?_;refine aj 19 (λK n=>?_);go_simp
    refine af n (λd0=>Pg rfl d0) ?_;clear n K;refine aG ?_;go_wp2
    go_roundw
    case rel=>
     have s:=W.o;have ef:(l.take (k+1)).filter (bZ key.toList)= (l.take k).filter (bZ key.toList)++ [d]:=by rw[a9.o,Pe (by simp[bZ,b0])]
     refine⟨k+1,m+1,_,c6,_,A7,C8,s.kept.setCell D7 _,by rw[size_setCell];exact s.size, ?_,s.res.block (Below.heap_setCell _ _ _ _ A9),s.out.set _,bu s.out.row A7 _,by rw[ef,OD,<-I.o];rfl,eG c9.o A9 _, ?_⟩
     .rw[Ol _ _ _ _ A9];exact s.arg
     .rw[ef];exact c8.o.same (s.out.same _) A8 A8 A8
    case measure=>simp[intOf];omega
   .go_wp2
    go_roundw
    case rel=>
     have e:(l.take (k+1)).filter (bZ key.toList)= (l.take k).filter (bZ key.toList):=by rw[a9.o,Pf (by simp[bZ,b0])];simp
     exact⟨k+1,m,b,f,xs,A7,C8,t,Z,F,x.o,a3.o,L,by rw[e];exact I.o,G.o,by rw[e];exact H.o⟩
    case measure=>simp[intOf];omega
  .have d1:k=l.length:=A7;subst d1;rw[Ox] at H I;obtain⟨⟨_,x0⟩,g0⟩:=x.o.row.at (i:=0) A7;go_wp2
   have hR:=NU wr (w.heap.size+1) 0 [.slice b m f] (x.o.row.there (o:=0) (m:=1) (NQ _));have E:=eG G.o (p:=⟨w.heap.size+1,0,none⟩) A9 (.slice b m f);have d2:=H.o.same (x.o.same (o:=0) (.slice b m f)) A8 A8 A8;have d3:=I.o;subst d3;exact X_ [.slice b _ f] _ results162 rfl hR underlying25 rfl Tryz.mF rfl ⟨b,f,xs,w.heap.size+3,rfl,A7,E,d2,t.setCell A9 _⟩
theorem yT(h:bF l 0):dI l:=by
 have a:¬iL l:=by
  rcases h with⟨_,e⟩|⟨_,_,e⟩|⟨_,_,_,e⟩|⟨_,_,_,_,e⟩|⟨_,_,b,_,_⟩
  .omega
  .omega
  .omega
  .omega
  .exact b
 refine DY λi c=>?_
 cases d:Op.bytesLess (nameAt l i) (nameAt l (i+1))
 .exact Pg ⟨i,c,d⟩ a
 .rfl
variable {p : Nat}
theorem EA(b:dI l){j:Nat}(d:p<l.length)(f:j<l.length)(e:nameAt l j=nameAt l p):j=p:=by
 by_cases h:j=p
 .exact h
 .rcases Nat.lt_or_gt_of_ne h with a|a
  .have:=b j p a d;rw[e,dV] at this;cases this
  .have:=b p j a f;rw[e,dV] at this;cases this
variable {key : List UInt8}
theorem EX(k:dI l)(a:p<l.length)(e:nameAt l p=key):l.filter (bZ key)=KJ l p:=by
 have h:∀j (b:j<l.length),j≠p->bZ key l[j]=true:=λj b m=>by
  have c:nameAt l j=l[j].name.toList:=by unfold nameAt;simp[List.getD,b]
  simp only[bZ,Bool.not_eq_true',beq_eq_false_iff_ne];intro n;exact m (EA k a b (by rw[c,n,e]))
 have q:bZ key l[p]=false:=by
  have c:nameAt l p=l[p].name.toList:=by unfold nameAt;simp[List.getD,a]
  simp[bZ,<-c,e]
 have r:l=l.take p++ (l[p] :: l.drop (p+1)):=by
  rw[<-Pb a,OW]
 have s:(l.take p).filter (bZ key)=l.take p:=List.filter_eq_self.2 λt d=>by
  obtain⟨i,f,rfl⟩:=Oc d;rw[Oo] at f;rw[OA];exact h i A7 A7
 have v:(l.drop (p+1)).filter (bZ key)=l.drop (p+1):=List.filter_eq_self.2 λt d=>by
  obtain⟨i,f,rfl⟩:=Oc d;rw[List.length_drop] at f;rw[List.getElem_drop];exact h _ A7 A7
 unfold KJ
 conv=>lhs;rw[r]
 rw[List.filter_append,List.filter_cons_of_neg (by rw[q];simp),s,v]
def jV(key:List UInt8)(d:Qq):Bool:=Op.bytesLess d.name.toList key
def kU(key:List UInt8)(d:Qq):Bool:=Op.bytesLess key d.name.toList
def lW(l:List Qq)(d:Qq):List Qq:=l.filter (jV d.name.toList)++d :: l.filter (kU d.name.toList)
theorem yC{x y:List UInt8}(h:Op.bytesLess x y=true):Op.bytesLess y x=false:=by
 cases c:Op.bytesLess y x
 .rfl
 .have:=fC _ _ _ h c;rw[dV] at this;cases this
theorem iD{j:Nat}(h:j<l.length):nameAt l j=l[j].name.toList:=by unfold nameAt;simp[List.getD,h]
theorem Place.less(h:Place l key p):l.filter (jV key)=l.take p:=by
 have c:(l.take p).filter (jV key)=l.take p:=List.filter_eq_self.2 λd a=>by
  obtain⟨i,b,rfl⟩:=Oc a;rw[Oo] at b;rw[OA];have:=h.before i A7;rw[iD A7] at this;exact this
 have e:(l.drop p).filter (jV key)=[]:=List.filter_eq_nil_iff.2 λd a=>by
  obtain⟨i,b,rfl⟩:=Oc a;rw[List.length_drop] at b;rw[List.getElem_drop];have:=h.behind (p+i) A7 A7;rw[iD A7] at this;simp[jV,this]
 conv=>lhs;rw[<-OW p l]
 rw[List.filter_append,c,e,List.append_nil]
theorem Place.ahead(h:Place l key p):(l.take p).filter (kU key)=[]:=List.filter_eq_nil_iff.2 λe b=>by
 obtain⟨i,d,rfl⟩:=Oc b;rw[Oo] at d;rw[OA];have:=h.before i A7;rw[iD A7] at this;simp[kU,yC this]
theorem Place.more(_:dI l)(h:Place l key p)(c:∀j,j<l.length->nameAt l j≠key):l.filter (kU key)=l.drop p:=by
 have d:(l.drop p).filter (kU key)=l.drop p:=List.filter_eq_self.2 λk e=>by
  obtain⟨i,f,rfl⟩:=Oc e;rw[List.length_drop] at f;rw[List.getElem_drop];have a:=h.behind (p+i) A7 A7;have b:=c (p+i) A7;rw[iD A7] at a b;exact rV _ _ a b
 conv=>lhs;rw[<-OW p l]
 rw[List.filter_append,h.ahead,d,List.nil_append]
theorem Place.Mi(c:dI l)(h:Place l key p)(b:p<l.length)(e:nameAt l p=key):l.filter (kU key)=l.drop (p+1):=by
 have f:(l.drop (p+1)).filter (kU key)=l.drop (p+1):=List.filter_eq_self.2 λd j=>by
  obtain⟨i,k,rfl⟩:=Oc j;rw[List.length_drop] at k;rw[List.getElem_drop];have a:=c p (p+1+i) A7 A7;rw[e,iD A7] at a;exact a
 have a:l.drop p=l[p] :: l.drop (p+1):=Pb b;have m:kU key l[p]=false:=by
  rw[iD b] at e;simp[kU,e,dV]
 conv=>lhs;rw[<-OW p l]
 rw[List.filter_append,h.ahead,a,List.filter_cons_of_neg (by rw[m];simp),f,List.nil_append]
theorem JU(key:List UInt8)(m:dI l):∃p,Place l key p:=by
 have:∀n,n<=l.length->∃p,p<=n/\(∀j,j<p->Op.bytesLess (nameAt l j) key=true)/\∀j,p<=j->j<n->Op.bytesLess (nameAt l j) key=false:=by
  intro n
  induction n with
  | zero=>exact λ_=>⟨0,NQ _,λj b=>aT b,λj _ b=>aT b⟩
  | succ n ih=>
   intro r;obtain⟨p,s,e,i⟩:=ih A7;by_cases f:p=n
   .subst f;cases c:Op.bytesLess (nameAt l p) key
    .refine⟨p,A7,e,λj a d=>?_⟩;obtain rfl:j=p:=A7;exact c
    .refine⟨p+1,NQ _,λj b=>?_,λj a d=>A7⟩;by_cases f:j=p
     .rw[f];exact c
     .exact e j A7
   .refine⟨p,A7,e,λj a d=>?_⟩;by_cases q:j=n
    .subst q;cases c:Op.bytesLess (nameAt l j) key
     .rfl
     .have h:=m p j A7 A7;have k:=i p (NQ _) A7;rw[fC _ _ _ h c] at k;cases k
    .exact i j a A7
 obtain⟨p,a,d,h⟩:=this l.length (NQ _);exact⟨p,a,d,h⟩
theorem nQ(key:List UInt8)(a:dI l):l.filter (bZ key)=l.filter (jV key)++l.filter (kU key):=by
 obtain⟨p,b⟩:=JU key a;by_cases h:p<l.length/\nameAt l p=key
 .rw[EX a h.1 h.2,b.less,b.Mi a h.1 h.2]
  rfl
 .have c:∀j,j<l.length->nameAt l j≠key:=λj f e=>by
   have:=b.only a f e;subst this;exact h ⟨f,e⟩
  rw[b.less,b.more a c,OW];refine List.filter_eq_self.2 λd m=>?_
  obtain⟨i,k,rfl⟩:=Oc m;have:=c i k;rw[iD k] at this;simpa[bZ] using this
def qx(l:List Qq)(d:Qq):Nat:=(l.filter (jV d.name.toList)).length
theorem sS(a:dI l):(lW l d).length= (l.filter (bZ d.name.toList)).length+1:=by
 rw[nQ _ a];simp[lW];omega
theorem Ha(a:dI l):qx l d<=(l.filter (bZ d.name.toList)).length:=by
 rw[nQ _ a];simp[qx]
theorem Jw(l:List Qq)(d:Qq):(lW l d).getD (qx l d) Qq.zero=d:=by simp[lW,qx,List.getD]
theorem GX{x:Qq}(h:x∈lW l d):x=d\/x∈l:=by
 simp only[lW,N_,OL,List.mem_filter] at h;rcases h with h|h|h
 .exact .inr h.1
 .exact .inl h
 .exact .inr h.1
theorem GG(h:m<l.length):l.take (m+1)=l.take m++ [l.getD m Qq.zero]:=by
 rw[NY h];simp[List.getD,h]
def Cr(l:List Qq)(d:Qq)(c:Int)(r:List Qq):Prop:=
 (¬bF l 0/\c=1/\r=[])\/(bF l 0/\(¬jo d.name\/¬gW ⟨d.cost,d.steps⟩)/\c=2/\r=[])\/(bF l 0/\jo d.name/\gW ⟨d.cost,d.steps⟩/\60<(lW l d).length/\c=3/\r=[])\/
 (bF l 0/\jo d.name/\gW ⟨d.cost,d.steps⟩/\(lW l d).length<=60/\c=0/\r=lW l d)
theorem Cr.mem{r:List Qq}{c:Int}(h:Cr l d c r){x:Qq}(a:x∈r):x=d\/x∈l:=by
 rcases h with⟨_,_,rfl⟩|⟨_,_,_,rfl⟩|⟨_,_,_,_,_,rfl⟩|⟨_,_,_,_,_,rfl⟩
 .cases a
 .cases a
 .cases a
 .exact GX a
theorem Cr.len{r:List Qq}{c:Int}(h:Cr l d c r):r.length<=60:=by
 rcases h with⟨_,_,rfl⟩|⟨_,_,_,rfl⟩|⟨_,_,_,_,_,rfl⟩|⟨h,_,_,b,_,rfl⟩
 .simp
 .simp
 .simp
 .exact b
def mg(l:List Qq)(d:Qq)(w w':Pv)(e:Ending):Prop:=
 ∃a cap c r xs base,e= .returned (.tuple #[.agg #[.slice a r.length cap],.a c])/\Cr l d c r/\w.heap.size<=base/\w'.ownsRow base 88 3 (.slice a r.length cap) r.length xs/\dC w' xs r/\K_ w w'
theorem mg.none{w':Pv}{e:Ending}(c:Int)(a:e= .returned (.tuple #[.agg #[J3],.a c]))(h:Cr l d c [])(k:K_ w w'):mg l d w w' e:=⟨Option.none,0,c,[],[],_,a,h,NQ _,OO _ _ _ _,dC.nil _,k⟩
theorem aC.ug{t:TypeId}{w':Pv}{b:Nat}(h:Xk b (b+1) w w')(d:aB w b t n):aC t w w':=by
 intro x i u j f a;rw[h.block x (aO a) ?_]
 .exact a
 .obtain⟨k,c,_⟩:=d;by_cases e:x=b
  .subst e;rw[a] at c;simp only[OE,Obj.cells.injEq] at c;exact Pg c.2.1 f
  .omega
theorem E_(f:dI l)(k:Nat)(e:k<(l.filter (bZ d.name.toList)).length):
  (k<qx l d->Op.bytesLess ((l.filter (bZ d.name.toList)).getD k Qq.zero).name.toList d.name.toList=true/\(lW l d).getD k Qq.zero= (l.filter (bZ d.name.toList)).getD k Qq.zero)/\
  (qx l d<=k->(Op.bytesLess ((l.filter (bZ d.name.toList)).getD k Qq.zero).name.toList d.name.toList=false/\(((l.filter (bZ d.name.toList)).getD k Qq.zero).name.toList == d.name.toList)=false)/\(lW l d).getD (k+1) Qq.zero= (l.filter (bZ d.name.toList)).getD k Qq.zero):=by
 rw[nQ _ f] at e⊢;unfold lW qx;rw[OD] at e;constructor
 .intro h;have a:(l.filter (jV d.name.toList)++l.filter (kU d.name.toList)).getD k Qq.zero= (l.filter (jV d.name.toList))[k]:=by simp[List.getD,OU h,h]
  rw[a];refine⟨?_,by simp[List.getD,OU h,h]⟩;have:=Oa h;exact (List.mem_filter.1 this).2
 .intro h;have b:k-(l.filter (jV d.name.toList)).length<(l.filter (kU d.name.toList)).length:=A7;have a:(l.filter (jV d.name.toList)++l.filter (kU d.name.toList)).getD k Qq.zero= (l.filter (kU d.name.toList))[k-(l.filter (jV d.name.toList)).length]:=by simp[List.getD,OV h,b]
  rw[a];have c:Op.bytesLess d.name.toList (l.filter (kU d.name.toList))[k-(l.filter (jV d.name.toList)).length].name.toList=true:=(List.mem_filter.1 (Oa b)).2;refine⟨⟨yC c, ?_⟩, ?_⟩
  .rw[beq_eq_false_iff_ne];intro i;rw[i,dV] at c;cases c
  have j:k+1-(l.filter (jV d.name.toList)).length= (k-(l.filter (jV d.name.toList)).length)+1:=A7;simp[List.getD,OV (show (l.filter (jV d.name.toList)).length<=k+1 by omega),j,b]
def LJ(l:List Qq)(d:Qq):List Qq:=l.filter (bZ d.name.toList)
theorem dC.at{h:Pt}{q:Nat}(d:w.ownsRow base 88 3 (.slice h n q) n xs)(i:dC w xs l){k:Nat}(r:k<l.length):
  ∃g f fr a c,h=some ⟨g,0,none⟩/\w.heap[g]? =some (Obj.cells f 88 fr)/\w.cell? ⟨g,k*3,none⟩=some (.string (l.getD k Qq.zero).name)/\w.cell? ⟨g,k*3+1,none⟩=some (.a (l.getD k Qq.zero).cost)/\
   w.cell? ⟨g,k*3+2,none⟩=some (.slice a (l.getD k Qq.zero).steps.length c)/\dB w (.slice a (l.getD k Qq.zero).steps.length c) (l.getD k Qq.zero).steps:=by
 have v:n=l.length:=by have x:=d.1;have y:=i.1;omega
 rcases d.2 with⟨_,z⟩|⟨g,A,f,e,B,s,C,_,_,_⟩
 .omega
 .simp only[OG] at e;obtain⟨rfl,_,rfl⟩:=e;obtain⟨D,e,m⟩:=i.2 k r;obtain⟨a,c,rfl⟩:=m.slice;have b:∀j u,((xs.drop (k*3)).take 3)[j]? =some u->j<3->J4 w g (k*3+j) u:=λj u p t=>by
   rw[List.getElem?_take,Pe t,List.getElem?_drop] at p;have:=d.cells (g:=g) rfl _ _ p;rw[OI,Ow] at this;exact this
  rw[e] at b;exact⟨g,f,_,a,c,rfl,s,b 0 _ rfl A8,b 1 _ rfl A8,b 2 _ rfl A8,m⟩
structure iT (wc wr:Pv) (outb:Nat) (T:List Qq) (m:Nat) (av:Pt) (cv:Nat) (xs:List Pw):Prop where
 kb:Xk outb (outb+1) wc wr
 row:aB wr outb 25 1
 cell:wr.cell? ⟨outb,0,none⟩=some (.slice av m cv)
 own:wr.ownsRow wc.heap.size 88 3 (.slice av m cv) m xs
 pack:dC wc xs (T.take m)
variable {T : List Qq} {outb : Nat} {wc : Pv}
theorem iT.grown{W:Pv}(h:iT wc wr outb T m av cv xs)(a:K_ wr W)(c:W.grownBy w6 (Value.slice av m cv).ownBlock):Below wc.heap.size wr w6:=
 have e:=h.kb.size;have f:=a.size
 (Below.mono a A7).trans (Below.grown (Below.refl _ _) c A7 (λg d=>((ak h.own a).lt g d).1))
theorem iT.next{W:Pv}{a:Nat}{b:Pt}{x:Qq}{c:Pt}{d:Nat}(h:iT wc wr outb T m av cv xs)(e:outb<wc.heap.size)(j:K_ wr W)(k:W.grownBy w6 (Value.slice av m cv).ownBlock)
 (l:w6.ownsRow wc.heap.size 88 3 (.slice b (m+1) a) (m+1) (xs++ [.string x.name,.a x.cost,.slice c x.steps.length d])) (n:m<T.length) (p:T.getD m Qq.zero=x) (q:dB wc (.slice c x.steps.length d) x.steps):
  iT wc (w6.setCell ⟨outb,0,none⟩ (.slice b (m+1) a)) outb T (m+1) b a (xs++ [.string x.name,.a x.cost,.slice c x.steps.length d]):=by
 have f:=h.grown j k;have i:aB w6 outb 25 1:=h.row.block (f.block outb e);refine⟨(h.kb.below f).setCell (NQ _) (Nat.lt_succ_self _) _,i.set _,bu i.row A7 _,eG l e _, ?_⟩;rw[GG n,p];exact h.pack.snoc q
theorem iT.drewN(h:iT wc wr outb T m av cv xs)(n:Nat):iT wc (wr.drewN n) outb T m av cv xs:=
 ⟨⟨h.kb.os,h.kb.tape,h.kb.output,h.kb.size,h.kb.block⟩,h.row,h.cell,h.own,h.pack⟩
theorem iT.fin{b:Pv}{a:Nat}(h:iT wc b outb T n av cv xs)(j:aB wc outb 25 1)(c:aB wc a 25 1)(x:a≠outb)(K:K_ w wc)(k:w.heap.size<=a)(h2:w.heap.size<=outb)
 (q:T.length=n) (e:T=lW l d) (c1:bF l 0) (r:jo d.name) (c3:gW ⟨d.cost,d.steps⟩) (s:n<=60):
  (b.setCell ⟨a,0,none⟩ (.slice av n cv)).rangeAt a 0 [.slice av n cv]/\mg l d w (b.setCell ⟨a,0,none⟩ (.slice av n cv)) (.returned (.tuple #[.agg #[.slice av n cv],.a 0])):=by
 have f:aB b a 25 1:=c.block (h.kb.block a c.lt A7);have t:=eG h.own (p:=⟨a,0,none⟩) c.lt (.slice av n cv);have i:=h.pack;rw[Oy A7] at i;have v:=(i.same (aC.ug h.kb j) A8 A8 A8).same (f.same (o:=0) (.slice av n cv)) A8 A8 A8;refine⟨NU b a 0 [.slice av n cv] (f.row.there (o:=0) (m:=1) (NQ _)), ?_⟩;subst q;exact⟨av,cv,0,T,xs,wc.heap.size,rfl,.inr (.inr (.inr ⟨c1,r,c3,e ▸ s,rfl,e⟩)),K.size,t,v,(h.kb.kept K h2).setCell k _⟩
structure Nu (W6 Wl:Pv) (d:Qq) (oneb:Nat) (a2:Pt) (ca2:Nat):Prop where
 kept:K_ W6 Wl
 ge:W6.heap.size<=oneb
 lt:oneb<Wl.heap.size
 name:Wl.cell? ⟨oneb,0,none⟩=some (.string d.name)
 cost:Wl.cell? ⟨oneb,1,none⟩=some (.a d.cost)
 steps:Wl.cell? ⟨oneb,2,none⟩=some (.slice a2 d.steps.length ca2)
 one:dB Wl (.slice a2 d.steps.length ca2) d.steps
def NJ(W6:Pv)(d:Qq)(s8:Pw)(Wl:Pv):Prop:=∃oneb a2 ca2,s8= .c oneb/\Nu W6 Wl d oneb a2 ca2
theorem Kg(w:Pv)(a0:Pt)(cap:Nat)(l:List Qq)(d:Qq)(aA:Pt)(ca:Nat)(d1:mN<=1000)(hl:l.length<=1000)(hs:∀d∈l,d.TinyN mN)(e7:d.TinyN mN)(hS:uA w a0 l)(hN:bN w a0 l)(hA:kW w aA d.steps)(j0:Steps w aA d.steps):
  Calls prog 212 #[.agg #[.slice a0 l.length cap],.agg #[.string d.name,.a d.cost,.slice aA d.steps.length ca]] w λe w'=>mg l d w w' e:=by
 have j1:l.length<=maxLen:=D5;have hf:∀e8∈l,e8.Fits:=λe8 j2=>(hs e8 j2).fits d1
 have e9:=e7.fits d1;go_enter func212,ntmps212
 go_wp2_with fail
 refine (mZ _ a0 cap l j1 hf (hN.kept F5)).mono ?_;rintro e w1 ⟨⟨c,rfl,hc⟩,k1⟩;have K1:K_ w w1:=K_.trans F5 k1;have z1:=k1.size;simp only[OC] at z1;have q0:=Bn (w:=w) (K_.trans ((ah _ _).alloc _) k1);have nn:=Hd (w:=w.alloc (.cells #[.slice a0 l.length cap] 25)) (K_.trans (ah _ _) k1);simp only[OC] at nn;obtain⟨n0,n1,n2⟩:=nn;have f0:aB w1 (w.heap.size+2) 25 1:=aB.kept (by have:=aB.made ((w.alloc (.cells #[.slice a0 l.length cap] 25)).alloc (.cells #[.string d.name,.a d.cost,.slice aA d.steps.length ca] 88)) #[J3] 25;simpa using this) k1;obtain⟨⟨_,x0⟩,j3⟩:=f0.row.at (i:=0) A7;have⟨d2,HC⟩:=aH f0 hc;clear f0 hc k1;by_cases f1:c=0
 .subst f1;have j4:w.heap.size<w1.heap.size:=A7;have f2:w.heap.size+1<w1.heap.size:=A7;have l6:w.heap.size+2<w1.heap.size:=A7;go_wp2_with fail
  refine (nR _ d.name e9.name).mono ?_;rintro e w2 ⟨a9,rfl⟩;rcases a9.cases with⟨rfl,c0⟩|⟨rfl,c1⟩
  .have HY:=Kz c0;clear c0 a9;go_wp2_with fail
   refine (fV _ d.cost aA ca d.steps e9.steps e9.each (j0.kept K1)).mono ?_;rintro e w3 ⟨a9,k3⟩;have q3:=(k3.cell (o:=0) j4).trans q0;have p0:=(k3.cell (o:=0) f2).trans n0;have p1:=(k3.cell (o:=1) f2).trans n1;have p2:=(k3.cell (o:=2) f2).trans n2;have d3:=Kz (d2.o.kept k3);have K3:=K1.trans k3;have z3:=k3.size;obtain⟨⟨_,y0⟩,j5⟩:=d3.o.row.at (i:=0) A7;clear q0 n0 n1 n2 x0 j3 d2 K1 k3;rcases a9.cases with⟨rfl,c0⟩|⟨rfl,c1⟩
   .have HM:=Kz c0;clear c0 a9;have j6:w.heap.size<w3.heap.size:=A7;have f3:w.heap.size+1<w3.heap.size:=A7;have l7:w.heap.size+2<w3.heap.size:=A7;have d4:=Kz (yT HC.o);go_wp2_with fail
    refine (tK _ a0 cap l d.name d1 hl hs (hS.kept K3)).mono ?_;rintro e a ⟨b0,C,l8,l9,rfl,m0,f4,f5,k4⟩;obtain⟨old,d5⟩:=ai (LJ l d);rw[show l.filter (bZ d.name.toList)=old from d5.symm] at f4 f5⊢;have m1:old.length<=l.length:=by rw[d5];exact List.length_filter_le _ _
    have⟨h0,h1,h3⟩:=fu d5 f4 f5;have K4:=K3.trans k4;have q4:=(k4.cell (o:=0) j6).trans q3;have r0:=(k4.cell (o:=0) f3).trans p0;have r1:=(k4.cell (o:=1) f3).trans p1;have r2:=(k4.cell (o:=2) f3).trans p2;have d6:=Kz (d3.o.kept k4);have z4:=k4.size;obtain⟨⟨_,v0⟩,u0⟩:=d6.o.row.at (i:=0) A7;clear d5 f4 f5 q3 p0 p1 p2 y0 j5 d3 K3 k4;have m2:w.heap.size<a.heap.size:=A7;have d7:w.heap.size+1<a.heap.size:=A7;have m3:w.heap.size+2<a.heap.size:=A7;by_cases m4:60<=old.length
    .have j7:(60:Int)<=(old.length:Int):=A7;go_wp2
     have j8:=NU a (w.heap.size+2) 0 [J3] (d6.o.row.there (o:=0) (m:=1) (NQ _));have j9:((a.setCell ⟨w.heap.size+2,0,none⟩ J3).alloc (.cells #[.slice b0 old.length C] 25)).rangeAt (w.heap.size+2) 0 [J3]:=K_.range (ah _ _) (by rw[size_setCell];omega) j8;refine dQ [J3] _ (.a 3) results212 rfl j9 underlying25 rfl Tryz.mF rfl rfl (mg.none 3 rfl (.inr (.inr (.inl ⟨HC.o,HY.o,HM.o, ?_,rfl,rfl⟩))) ?_)
     .rw[sS d4.out,show l.filter (bZ d.name.toList)=old from h0.o.symm];omega
     .exact (K4.setCell D7 _).alloc _
    .have j7:¬(60:Int)<=(old.length:Int):=A7;have r:Hid (∀w',K_ ((a.alloc (.cells #[.slice b0 old.length C] 25)).alloc (.cells #[J3] 25)) w'->(λw'=>J4 w' (w.heap.size+1) 0 (.string d.name)/\J4 w' (w.heap.size+1) 1 (.a d.cost)/\J4 w' (w.heap.size+1) 2 (.slice aA d.steps.length ca)) w'):=λw' kk=>by
      have k5:K_ a w':=K_.trans ((ah _ _).alloc _) kk;exact⟨(k5.cell d7).trans r0,(k5.cell d7).trans r1,(k5.cell d7).trans r2⟩
     have KA:K_ w ((a.alloc (.cells #[.slice b0 old.length C] 25)).alloc (.cells #[J3] 25)):=(K4.alloc _).alloc _;go_upto_region 9 with fail
     go_cut [8] from 36 to 41 (λs8 wx=>NJ ((a.alloc (.cells #[.slice b0 old.length C] 25)).alloc (.cells #[J3] 25)) d s8 wx)
     case first=>
      go_region_held (λw'=>J4 w' (w.heap.size+1) 0 (.string d.name)/\J4 w' (w.heap.size+1) 1 (.a d.cost)/\J4 w' (w.heap.size+1) 2 (.slice aA d.steps.length ca)) (exact bC r _ (by repeat (first | (refine K_.setCell ?_ D7 _) | (with_reducible exact K_.refl _) | (with_reducible assumption) | apply K_.drew | apply K_.alloc))) ((go_at_call 193;refine (AC _ d.cost aA ca d.steps d1 e7.steps e7.each (hA.kept (KA.trans F4))).mono ?_;rintro e w7 ⟨s,v,rfl,h4,h5⟩;have k7:K_ ((a.alloc (.cells #[.slice b0 old.length C] 25)).alloc (.cells #[J3] 25)) w7:=K_.trans F4 h5;have h6:=Kz h4;clear h4;(first | (have b8:=Cw (t:=88) (c:= #[.string ⟨#[]⟩,.a 0,J3]) h5;simp only[OC] at b8;have c2:=Kz b8;obtain⟨⟨_,t0⟩,U⟩:=b8.row.at (i:=0) A8;obtain⟨⟨_,t1⟩,V⟩:=b8.row.at (i:=1) A8;obtain⟨⟨_,t2⟩,m5⟩:=b8.row.at (i:=2) A8;clear b8) | skip)))
      .go_wp2
       go_meet
       refine⟨w7.heap.size,s,v,rfl,k7.alloc _,k7.size,A9,A9,A9,A9, ?_⟩;exact h6.o.same (u:=88) (.au (ah _ _)) A8 A8 A8
      .go_wp2
       go_meet
       have y:=NU w7 (a.heap.size+1+1) 0 [.string d.name,.a d.cost,.slice s d.steps.length v] (c2.o.row.there (o:=0) (m:=3) (NQ _));refine⟨a.heap.size+1+1,s,v,rfl,((k7.setCell A9 _).setCell A9 _).setCell A9 _,A9,by simp only[size_setCell];exact c2.o.lt,y 0 _ rfl,y 1 _ rfl,y 2 _ rfl, ?_⟩;exact h6.o.same (((c2.o.same _).trans ((c2.o.set _).same _)).trans (((c2.o.set _).set _).same _)) A8 A8 A8
     case rest=>
      obtain⟨k0,s,v,rfl,a2⟩:=hcut;have c3:K_ a wc:=K_.trans ((ah _ _).alloc _) a2.kept;have zc:=a2.kept.size;have zo:=a2.ge;simp only[OC] at zc zo;have co:=Bn (w:=a) (K_.trans (ah _ _) a2.kept);have cu:=Bn (w:=a.alloc (.cells #[.slice b0 old.length C] 25)) a2.kept;simp only[OC] at cu;have cn:=(c3.cell (o:=0) d7).trans r0;have f6:=Cm (X:=a.alloc (.cells #[.slice b0 old.length C] 25)) a2.kept;simp only[OC] at f6;have b1:Hid (aB wc (a.heap.size+1) 25 1):=f6;have d8:=Kz (d6.o.kept c3);have k2:=Kz (ak h1.o c3);have k6:=Kz (h3.o.same (aC.au (t:=88) c3) A8 A8 A8);have F:=Kz a2;obtain⟨a3,hT⟩:=ai (lW l d);obtain⟨W,d9⟩:=ai (qx l d);have e0:l.filter (bZ d.name.toList)=old:=h0.o.symm;have b2:Hid (a3.length=old.length+1):=by rw[hT,<-e0];exact sS d4.out
      have m6:W<=old.length:=by rw[d9,<-e0];exact Ha d4.out
      have h7:Hid (a3.getD W Qq.zero=d):=by rw[hT,d9];exact Jw l d
      have k8:Hid (∀k,k<old.length->(k<W->Op.bytesLess (old.getD k Qq.zero).name.toList d.name.toList=true/\a3.getD k Qq.zero=old.getD k Qq.zero)/\(W<=k->(Op.bytesLess (old.getD k Qq.zero).name.toList d.name.toList=false/\((old.getD k Qq.zero).name.toList == d.name.toList)=false)/\a3.getD (k+1) Qq.zero=old.getD k Qq.zero)):=by
       rw[hT,d9,<-e0];exact λk hk=>E_ d4.out k hk
      have HT:=Kz hT;clear hT d9 e0 a2 f6 h1 h3 d6 v0 u0 q4 r KA;have K5:=K4.trans c3;go_wp2
      go_loopw [9,10] (λdn f7 wr=>∃(k e1:Nat) (I:Pt) (J:Nat) (O:List Pw),k<=old.length/\f7= .a k/\((dn= .bool true/\W<k/\e1=k+1)\/(dn= .bool false/\k<=W/\e1=k))/\iT wc wr (a.heap.size+1) a3 e1 I J O) (λ_ f7 _=>old.length-(intOf f7).toNat)
      case atStart=>exact⟨0,0,none,0,[],NS _,rfl,.inr ⟨rfl,NS _,rfl⟩,Xk.refl _ _ _,b1.o,cu,OO _ _ _ _,dC.nil _⟩
      case round=>
       obtain⟨k,e1,I,J,O,hk,rfl,h8,a4⟩:=hrel;have k9:=Kz (aC.ug a4.kb b1.o);have zr:=a4.kb.size;have f8:=a4.kb.same (l2:=0) (h2:=a.heap.size+1) A7;have e3:=a4.kb.same (l2:=a.heap.size+1+1) (h2:=wc.heap.size) A7;have eo:=(f8.cell (o:=0) (NS _) (A7:a.heap.size<a.heap.size+1) A7).trans co;have en:=(f8.cell (o:=0) (NS _) (A7:w.heap.size+1<a.heap.size+1) A7).trans cn;have f9:=(e3.cell (o:=0) zo F.o.lt F.o.lt).trans F.o.name;have e2:=(e3.cell (o:=1) zo F.o.lt F.o.lt).trans F.o.cost;have g0:=(e3.cell (o:=2) zo F.o.lt F.o.lt).trans F.o.steps;have ol:=F.o.lt;have eu:=a4.cell;obtain⟨⟨_,l0⟩,g1⟩:=a4.row.row.at (i:=0) A7;have D:=Kz a4;clear a4 f8 e3 l0;have g2:a.heap.size+1<wr.heap.size:=A7;have g3:a.heap.size<wr.heap.size:=A7;have m7:k0<wr.heap.size:=A7;have m8:w.heap.size+1<wr.heap.size:=A7;by_cases h9:k<old.length
       .obtain⟨g,e4,fr,i,j,rfl,n,E,G,H,g4⟩:=dC.at k2.o k6.o h9;have g5:=k9.out g e4 _ fr A8 n;have m9:=aO g5;have HG:=Kz (k8.o k h9);obtain⟨x,hx⟩:=ai (old.getD k Qq.zero);rw[<-hx] at E G H g4 HG;have Y:=Kz (And.intro E (And.intro G H));have D0:Hid (J4 wr g (k*3) (.string x.name)):=by show _=_;rw[Od (g5.trans n.symm)];exact E
        have g6:=D0.out;have n3:(k:Int)<(old.length:Int):=A7;have g7:=Kz g4;clear hx g4 E G H g5;rcases h8 with⟨rfl,g8,hm⟩|⟨rfl,g8,g9⟩
        .subst hm;have c4:=Kz (HG.o.2 A7).2;go_wp2
         go_quiet (fail)
         obtain⟨b,L⟩:=ai (wr.drewN nq);rw[<-L];have m:iT wc b (a.heap.size+1) a3 (k+1) I J O:=by rw[L];exact D.o.drewN nq
         clear L eo en f9 e2 g0 eu g1 g6;have a5:=aC.ug m.kb b1.o;have z:=a5 g e4 _ fr A8 n;have a6:=m.kb.same (l2:=0) (h2:=a.heap.size+1) A7;have U:=(a6.cell (o:=0) (NS _) (A7:a.heap.size<a.heap.size+1) A7).trans co;have E:b.cell? ⟨g,k*3,none⟩=some (.string x.name):=by rw[Od (z.trans n.symm)];exact Y.out.1
         have G:b.cell? ⟨g,k*3+1,none⟩=some (.a x.cost):=by rw[Od (z.trans n.symm)];exact Y.out.2.1
         have H:b.cell? ⟨g,k*3+2,none⟩=some (.slice i x.steps.length j):=by rw[Od (z.trans n.symm)];exact Y.out.2.2
         have V:=m.cell;have zq:=m.kb.size;have A:=Kz m;have gl:=aO n;have g2:a.heap.size+1<b.heap.size:=A7;have g3:a.heap.size<b.heap.size:=A7;have i0:g<b.heap.size:=A7;have r:Hid (∀w',Below wc.heap.size b w'->(λw'=>J4 w' (a.heap.size+1) 0 (.slice I (k+1) J)/\J4 w' a.heap.size 0 (.b g old.length C)/\J4 w' g (k*3) (.string x.name)/\J4 w' g (k*3+1) (.a x.cost)/\J4 w' g (k*3+2) (.slice i x.steps.length j)) w'):=λw' q=>⟨(Below.cell q (p:=⟨a.heap.size+1,0,none⟩) D7).trans V,(Below.cell q (p:=⟨a.heap.size,0,none⟩) D7).trans U,(Below.cell q (p:=⟨g,k*3,none⟩) D7).trans E,(Below.cell q (p:=⟨g,k*3+1,none⟩) D7).trans G,(Below.cell q (p:=⟨g,k*3+2,none⟩) D7).trans H⟩
         clear m a5 z a6;obtain⟨P,Q,R,S,T⟩:=info_parts Tryz.nL;go_wp2
         refine Qx.region C9 (λw'=>J4 w' (a.heap.size+1) 0 (.slice I (k+1) J)/\J4 w' a.heap.size 0 (.b g old.length C)/\J4 w' g (k*3) (.string x.name)/\J4 w' g (k*3+1) (.a x.cost)/\J4 w' g (k*3+2) (.slice i x.steps.length j)) 10 ⟨V,U,E,G,H⟩ (λh=>?_);refine ax 0 h ?_;refine ae 4 h ?_;refine ae 5 h ?_;refine ae 6 h ?_;refine aj 7 (λK f=>?_);go_simp
         have B:K_ b (b.alloc (.cells #[.string x.name,.a x.cost,.slice i x.steps.length j] 88)).drew:=(ah _ _).drew;refine af f (λ_=>r.o _ (Below.mono B A7)) ?_;clear f K h;refine aj 8 (λK f=>?_);refine step_append_lies _ rfl (.tmp 69) (.tmp 75) 23 rfl wc.heap.size 88 P _ 3 48 underlying23 Q R S T rfl A8 (.slice I (k+1) J) (k+1) O D9 (ak A.o.own B) ⟨b.heap.size,0,none⟩ 1 1 [.string x.name,.a x.cost,.slice i x.steps.length j] D9 rfl (λZ u a1=>by rw[OI];exact Xz b #[.string x.name,.a x.cost,.slice i x.steps.length j] 88 Z u (by simpa using a1)) (nH x i j) A7 D5 A7 D6 _ rfl ?_;intro i1 c5 w8 a7 M c6 i2;have N:=A.o.grown B M;have a8:aB w8 (a.heap.size+1) 25 1:=A.o.row.block (N.block _ A7);obtain⟨⟨_,i3⟩,i4⟩:=a8.row.at (i:=0) A7;have⟨c7,c8⟩:=aH a7 M;clear a7 M c6 a8;refine af f (λ_=>r.o _ N) ?_;clear f K;have h:=r.o _ N;refine ae 9 h ?_;refine aj 10 (λK f=>?_);go_simp
         refine af f (λb3=>Pg rfl b3) ?_;clear f K;refine aG ?_;go_wp2
         go_roundw
         case rel=>exact⟨k+1,k+1+1,_,c5,_,A7,C8,.inl ⟨rfl,A7,A7⟩,iT.next A.o A7 B c8.o c7.o (by have:=b2.o;omega) c4.o g7.o⟩
         case measure=>simp[intOf];omega
        .have hm:=g9.symm;subst hm;by_cases i5:k<W
         .have l1:=(HG.o.1 i5).1;have c4:=Kz (HG.o.1 i5).2;go_wp2
          go_quiet (fail)
          obtain⟨b,L⟩:=ai (wr.drewN nq);rw[<-L];have m:iT wc b (a.heap.size+1) a3 (k) I J O:=by rw[L];exact D.o.drewN nq
          clear L eo en f9 e2 g0 eu g1 g6;have a5:=aC.ug m.kb b1.o;have z:=a5 g e4 _ fr A8 n;have a6:=m.kb.same (l2:=0) (h2:=a.heap.size+1) A7;have U:=(a6.cell (o:=0) (NS _) (A7:a.heap.size<a.heap.size+1) A7).trans co;have E:b.cell? ⟨g,k*3,none⟩=some (.string x.name):=by rw[Od (z.trans n.symm)];exact Y.out.1
          have G:b.cell? ⟨g,k*3+1,none⟩=some (.a x.cost):=by rw[Od (z.trans n.symm)];exact Y.out.2.1
          have H:b.cell? ⟨g,k*3+2,none⟩=some (.slice i x.steps.length j):=by rw[Od (z.trans n.symm)];exact Y.out.2.2
          have V:=m.cell;have zq:=m.kb.size;have A:=Kz m;have gl:=aO n;have g2:a.heap.size+1<b.heap.size:=A7;have g3:a.heap.size<b.heap.size:=A7;have i0:g<b.heap.size:=A7;have r:Hid (∀w',Below wc.heap.size b w'->(λw'=>J4 w' (a.heap.size+1) 0 (.slice I (k) J)/\J4 w' a.heap.size 0 (.b g old.length C)/\J4 w' g (k*3) (.string x.name)/\J4 w' g (k*3+1) (.a x.cost)/\J4 w' g (k*3+2) (.slice i x.steps.length j)) w'):=λw' q=>⟨(Below.cell q (p:=⟨a.heap.size+1,0,none⟩) D7).trans V,(Below.cell q (p:=⟨a.heap.size,0,none⟩) D7).trans U,(Below.cell q (p:=⟨g,k*3,none⟩) D7).trans E,(Below.cell q (p:=⟨g,k*3+1,none⟩) D7).trans G,(Below.cell q (p:=⟨g,k*3+2,none⟩) D7).trans H⟩
          clear m a5 z a6;obtain⟨P,Q,R,S,T⟩:=info_parts Tryz.nL;go_wp2
          refine Qx.region C9 (λw'=>J4 w' (a.heap.size+1) 0 (.slice I (k) J)/\J4 w' a.heap.size 0 (.b g old.length C)/\J4 w' g (k*3) (.string x.name)/\J4 w' g (k*3+1) (.a x.cost)/\J4 w' g (k*3+2) (.slice i x.steps.length j)) 10 ⟨V,U,E,G,H⟩ (λh=>?_);refine ax 0 h ?_;refine ae 4 h ?_;refine ae 5 h ?_;refine ae 6 h ?_;refine aj 7 (λK f=>?_);go_simp
          have B:K_ b (b.alloc (.cells #[.string x.name,.a x.cost,.slice i x.steps.length j] 88)).drew:=(ah _ _).drew;refine af f (λ_=>r.o _ (Below.mono B A7)) ?_;clear f K h;refine aj 8 (λK f=>?_);refine step_append_lies _ rfl (.tmp 69) (.tmp 75) 23 rfl wc.heap.size 88 P _ 3 48 underlying23 Q R S T rfl A8 (.slice I (k) J) (k) O D9 (ak A.o.own B) ⟨b.heap.size,0,none⟩ 1 1 [.string x.name,.a x.cost,.slice i x.steps.length j] D9 rfl (λZ u a1=>by rw[OI];exact Xz b #[.string x.name,.a x.cost,.slice i x.steps.length j] 88 Z u (by simpa using a1)) (nH x i j) A7 D5 A7 D6 _ rfl ?_;intro i1 c5 w8 a7 M c6 i2;have N:=A.o.grown B M;have a8:aB w8 (a.heap.size+1) 25 1:=A.o.row.block (N.block _ A7);obtain⟨⟨_,i3⟩,i4⟩:=a8.row.at (i:=0) A7;have⟨c7,c8⟩:=aH a7 M;clear a7 M c6 a8;refine af f (λ_=>r.o _ N) ?_;clear f K;have h:=r.o _ N;refine ae 9 h ?_;refine aj 10 (λK f=>?_);go_simp
          refine af f (λb3=>Pg rfl b3) ?_;clear f K;refine aG ?_;go_wp2
          go_roundw
          case rel=>exact⟨k+1,k+1,_,c5,_,A7,C8,.inr ⟨rfl,A7,A7⟩,iT.next A.o A7 B c8.o c7.o (by have:=b2.o;omega) c4.o g7.o⟩
          case measure=>simp[intOf];omega
         .obtain⟨l1,n4⟩:=(HG.o.2 A7).1;have c4:=Kz (HG.o.2 A7).2;go_wp2
          go_quiet (fail)
          obtain⟨P,Q,R,S,T⟩:=info_parts Tryz.nL;go_wp2_with (at_builtin;refine wpList_append_own _ rfl (.tmp 63) (.tmp 65) 23 rfl wc.heap.size 88 P _ 3 48 underlying23 Q R S T rfl A8 _ k O rfl (ak D.o.own F3) ⟨wr.heap.size,0,none⟩ 1 1 [.string d.name,.a d.cost,.slice s d.steps.length v] rfl rfl (λZ u a1=>(by rw[OI];exact Xz wr #[.string d.name,.a d.cost,.slice s d.steps.length v] 88 Z u (by simpa using a1))) (nH d s v) D5 A7 D6 ?_;intro v6 w6 b4 b5 _;obtain⟨b6,b7,rfl⟩:=ay b4;have b9:K_ wr ((wr.drewN nq).alloc (.cells #[.string d.name,.a d.cost,.slice s d.steps.length v] 88)):=((K_.refl _).drewN nq).alloc _;have c9:=D.o.grown b9 b5;have d0:aB w6 (a.heap.size+1) 25 1:=D.o.row.block (c9.block _ A7);obtain⟨⟨_,i6⟩,i7⟩:=d0.row.at (i:=0) A7;have e5:=Kz (iT.next D.o A7 b9 b5 b4 (by have:=b2.o;omega) (by have:=h7.o;rw[show k=W by omega];exact this) F.o.one);clear b4 b5 d0)
          obtain⟨b,L⟩:=ai (w6.setCell ⟨a.heap.size+1,0,none⟩ (.slice b6 (k+1) b7));rw[<-L];have m:iT wc b (a.heap.size+1) a3 (k+1) b6 b7 (O++ [.string d.name,.a d.cost,.slice s d.steps.length v]):=by rw[L];exact e5.o
          clear L eo en f9 e2 g0 eu g1 g6 i7 i6 c9 b9 e5;clear P Q R S T;have a5:=aC.ug m.kb b1.o;have z:=a5 g e4 _ fr A8 n;have a6:=m.kb.same (l2:=0) (h2:=a.heap.size+1) A7;have U:=(a6.cell (o:=0) (NS _) (A7:a.heap.size<a.heap.size+1) A7).trans co;have E:b.cell? ⟨g,k*3,none⟩=some (.string x.name):=by rw[Od (z.trans n.symm)];exact Y.out.1
          have G:b.cell? ⟨g,k*3+1,none⟩=some (.a x.cost):=by rw[Od (z.trans n.symm)];exact Y.out.2.1
          have H:b.cell? ⟨g,k*3+2,none⟩=some (.slice i x.steps.length j):=by rw[Od (z.trans n.symm)];exact Y.out.2.2
          have V:=m.cell;have zq:=m.kb.size;have A:=Kz m;have gl:=aO n;have g2:a.heap.size+1<b.heap.size:=A7;have g3:a.heap.size<b.heap.size:=A7;have i0:g<b.heap.size:=A7;have r:Hid (∀w',Below wc.heap.size b w'->(λw'=>J4 w' (a.heap.size+1) 0 (.slice b6 (k+1) b7)/\J4 w' a.heap.size 0 (.b g old.length C)/\J4 w' g (k*3) (.string x.name)/\J4 w' g (k*3+1) (.a x.cost)/\J4 w' g (k*3+2) (.slice i x.steps.length j)) w'):=λw' q=>⟨(Below.cell q (p:=⟨a.heap.size+1,0,none⟩) D7).trans V,(Below.cell q (p:=⟨a.heap.size,0,none⟩) D7).trans U,(Below.cell q (p:=⟨g,k*3,none⟩) D7).trans E,(Below.cell q (p:=⟨g,k*3+1,none⟩) D7).trans G,(Below.cell q (p:=⟨g,k*3+2,none⟩) D7).trans H⟩
          clear m a5 z a6;obtain⟨P,Q,R,S,T⟩:=info_parts Tryz.nL;go_wp2
          refine Qx.region C9 (λw'=>J4 w' (a.heap.size+1) 0 (.slice b6 (k+1) b7)/\J4 w' a.heap.size 0 (.b g old.length C)/\J4 w' g (k*3) (.string x.name)/\J4 w' g (k*3+1) (.a x.cost)/\J4 w' g (k*3+2) (.slice i x.steps.length j)) 10 ⟨V,U,E,G,H⟩ (λh=>?_);refine ax 0 h ?_;refine ae 4 h ?_;refine ae 5 h ?_;refine ae 6 h ?_;refine aj 7 (λK f=>?_);go_simp
          have B:K_ b (b.alloc (.cells #[.string x.name,.a x.cost,.slice i x.steps.length j] 88)).drew:=(ah _ _).drew;refine af f (λ_=>r.o _ (Below.mono B A7)) ?_;clear f K h;refine aj 8 (λK f=>?_);refine step_append_lies _ rfl (.tmp 69) (.tmp 75) 23 rfl wc.heap.size 88 P _ 3 48 underlying23 Q R S T rfl A8 (.slice b6 (k+1) b7) (k+1) (O++ [.string d.name,.a d.cost,.slice s d.steps.length v]) D9 (ak A.o.own B) ⟨b.heap.size,0,none⟩ 1 1 [.string x.name,.a x.cost,.slice i x.steps.length j] D9 rfl (λZ u a1=>by rw[OI];exact Xz b #[.string x.name,.a x.cost,.slice i x.steps.length j] 88 Z u (by simpa using a1)) (nH x i j) A7 D5 A7 D6 _ rfl ?_;intro i1 c5 w8 a7 M c6 i2;have N:=A.o.grown B M;have a8:aB w8 (a.heap.size+1) 25 1:=A.o.row.block (N.block _ A7);obtain⟨⟨_,i3⟩,i4⟩:=a8.row.at (i:=0) A7;have⟨c7,c8⟩:=aH a7 M;clear a7 M c6 a8;refine af f (λ_=>r.o _ N) ?_;clear f K;have h:=r.o _ N;refine ae 9 h ?_;refine aj 10 (λK f=>?_);go_simp
          refine af f (λb3=>Pg rfl b3) ?_;clear f K;refine aG ?_;go_wp2
          go_roundw
          case rel=>exact⟨k+1,k+1+1,_,c5,_,A7,C8,.inl ⟨rfl,A7,A7⟩,iT.next A.o A7 B c8.o c7.o (by have:=b2.o;omega) c4.o g7.o⟩
          case measure=>simp[intOf];omega
       .have l3:k=old.length:=A7;subst l3;rcases h8 with⟨rfl,g8,hm⟩|⟨rfl,g8,g9⟩
        .subst hm;obtain⟨y,e6⟩:=D.o.fin b1.o d8.o A7 K5 A7 A7 b2.o HT.o HC.o HY.o HM.o A7;have i8:=d8.o.block (D.o.kb.block _ A7 A7);obtain⟨⟨_,t0⟩,t1⟩:=i8.row.at (i:=0) A7;have⟨l4,l5⟩:=aH y e6;clear i8 y e6;go_wp2
         exact dQ [.slice I (old.length+1) J] _ (.a 0) results212 rfl l4.o underlying25 rfl Tryz.mF rfl rfl l5.o
        .have hm:=g9.symm;subst hm;obtain⟨P,Q,R,S,T⟩:=info_parts Tryz.nL;have n5:w.heap.size+2<wr.heap.size:=A7;go_wp2_with (at_builtin;refine wpList_append_own _ rfl (.tmp 81) (.tmp 83) 23 rfl wc.heap.size 88 P _ 3 48 underlying23 Q R S T rfl A8 _ old.length O rfl (ak D.o.own F3) ⟨wr.heap.size,0,none⟩ 1 1 [.string d.name,.a d.cost,.slice s d.steps.length v] rfl rfl (λZ u a1=>(by rw[OI];exact Xz wr #[.string d.name,.a d.cost,.slice s d.steps.length v] 88 Z u (by simpa using a1))) (nH d s v) D5 A7 D6 ?_;intro v6 w6 b4 b5 _;obtain⟨b6,b7,rfl⟩:=ay b4;have b9:K_ wr (wr.alloc (.cells #[.string d.name,.a d.cost,.slice s d.steps.length v] 88)):=ah _ _;have c9:=D.o.grown b9 b5;have d0:aB w6 (a.heap.size+1) 25 1:=D.o.row.block (c9.block _ A7);obtain⟨⟨_,i6⟩,i7⟩:=d0.row.at (i:=0) A7;have i9:aB w6 (w.heap.size+2) 25 1:=(d8.o.block (D.o.kb.block _ A7 A7)).block (c9.block _ A7);obtain⟨⟨_,n6⟩,n7⟩:=i9.row.at (i:=0) A7;have e5:=Kz (iT.next D.o A7 b9 b5 b4 (by have:=b2.o;omega) (by have:=h7.o;rw[show old.length=W by omega];exact this) F.o.one);clear b4 b5 d0 i9)
         obtain⟨y,e6⟩:=e5.o.fin b1.o d8.o A7 K5 A7 A7 b2.o HT.o HC.o HY.o HM.o A7;exact dQ [.slice b6 (old.length+1) b7] _ (.a 0) results212 rfl y underlying25 rfl Tryz.mF rfl rfl e6
   .have HM:=Kz c1;clear c1 a9;go_wp2
    have y:=NU w3 (w.heap.size+2) 0 [J3] (d3.o.row.there (o:=0) (m:=1) (NQ _));refine dQ [J3] _ (.a 2) results212 rfl y underlying25 rfl Tryz.mF rfl rfl (mg.none 2 rfl (.inr (.inl ⟨HC.o,.inr HM.o,rfl,rfl⟩)) ?_)
    repeat (first | (refine K_.setCell ?_ D7 _) | exact K3)
  .have HY:=Kz c1;clear c1 a9;go_wp2
   have y:=NU w2 (w.heap.size+2) 0 [J3] (d2.o.row.there (o:=0) (m:=1) (NQ _));refine dQ [J3] _ (.a 2) results212 rfl y underlying25 rfl Tryz.mF rfl rfl (mg.none 2 rfl (.inr (.inl ⟨HC.o,.inl HY.o,rfl,rfl⟩)) ?_)
   repeat (first | (refine K_.setCell ?_ D7 _) | exact K1)
 .have n8:(c == 0)=false:=by simpa using f1
  go_wp2
  have y:=NU w1 (w.heap.size+2) 0 [J3] (d2.o.row.there (o:=0) (m:=1) (NQ _));refine dQ [J3] _ (.a 1) results212 rfl y underlying25 rfl Tryz.mF rfl rfl (mg.none 1 rfl (.inl ⟨λb3=>f1 (HC.o.unique b3),rfl,rfl⟩) ?_)
  repeat (first | (refine K_.setCell ?_ D7 _) | exact K1)
theorem bM.at{a:Pt}(h:bM w (.slice a n cap) l){k:Nat}(f:k<l.length):
  ∃B oB b c,a=some ⟨B,oB,none⟩/\B<w.heap.size/\w.rangeAt B (oB+k*3) ((l.getD k Qq.zero).cells b c)/\kW w b (l.getD k Qq.zero).steps/\Steps w b (l.getD k Qq.zero).steps:=by
 obtain⟨r,s,e,t,v,g⟩:=h;simp only[OG] at e;obtain⟨rfl,rfl,rfl⟩:=e;obtain⟨i,o,x,y,u,j,m,p,d⟩:=g k f;obtain⟨b,c,rfl,_,q⟩:=d.FJ;exact⟨i,o,b,c,j,aO m,p,q,d.steps⟩
def Ar(mN:Nat)(w w':Pv)(e:Ending):Prop:=
 ∃(v:Pw) (r:List Qq),e= .returned (.agg #[v])/\r.length<=60/\(∀d∈r,d.TinyN mN)/\bM w' v r/\K_ w w'/\lV w.heap.size v r
def LF(mN:Nat)(wr:Pv)(s5 s6:Pw)(wx:Pv):Prop:=
 ∃(xb:Nat) (v:Pw) (c:Int) (r:List Qq),s5= .c xb/\s6= .a c/\K_ wr wx/\xb<wx.heap.size/\wx.cell? ⟨xb,0,none⟩=some v/\bM wx v r/\r.length<=60/\(∀d∈r,d.TinyN mN)/\lV wr.heap.size v r
theorem Cr.tiny{r:List Qq}{c:Int}(h:Cr l d c r)(e:∀d∈l,d.TinyN mN)(f:d.TinyN mN):∀x∈r,x.TinyN mN:=λx a=>by
 rcases h.mem a with rfl|a
 .exact f
 .exact e x a
theorem vG(w:Pv)(b:Pt)(cap:Nat)(l:List Qq)(c0:mN<=1000)(hl:l.length<=1000)(hs:∀d∈l,d.TinyN mN)(hG:bM w (.slice b l.length cap) l):
  Calls prog 189 #[.agg #[.slice b l.length cap]] w λe w'=>Ar mN w w' e:=by
 go_enter func189,ntmps189
 go_wp2
 have X:K_ w (((w.alloc (.cells #[.slice b l.length cap] 25)).alloc (.cells #[J3] 25)).alloc (.cells #[J3] 25)):=((ah _ _).alloc _).alloc _;go_loopw [4] (λG wr=>∃(k:Nat) (z:Pw) (r:List Qq),k<=l.length/\G= .a k/\K_ w wr/\wr.cell? ⟨w.heap.size,0,none⟩=some (.slice b l.length cap)/\aB wr (w.heap.size+1) 25 1/\aB wr (w.heap.size+2) 25 1/\
   wr.cell? ⟨w.heap.size+2,0,none⟩=some z/\bM wr z r/\r.length<=60/\(∀d∈r,d.TinyN mN)/\lV w.heap.size z r) (λG _=>l.length-(intOf G).toNat)
 case atStart=>
  have Y:=Xz ((w.alloc (.cells #[.slice b l.length cap] 25)).alloc (.cells #[J3] 25)) #[J3] 25;simp only[OC] at Y;refine⟨0,J3,[],NS _,rfl,X, ?_, ?_, ?_,Y 0 _ rfl,bM.nil _,A9,(λd hd=>by simp at hd),(λh0=>by simp at h0)⟩
  .rw[K_.cell (w:=w.alloc (.cells #[.slice b l.length cap] 25)) ((ah _ _).alloc _) A9];exact Xz w _ _ 0 _ rfl
  .exact aB.kept (by have:=aB.made (w.alloc (.cells #[.slice b l.length cap] 25)) #[J3] 25;simpa using this) (ah _ _)
  .have:=aB.made ((w.alloc (.cells #[.slice b l.length cap] 25)).alloc (.cells #[J3] 25)) #[J3] 25;simpa using this
 case round=>
  clear X;obtain⟨k,z,r,hk,rfl,c,H,Z,I,J,a0,a1,a2,a3⟩:=hrel;obtain⟨f,rfl⟩:=ai wr;have K:=I.lt;have⟨j,a4,i,s⟩:=jW Z I a0 a2;clear Z I a0 a2;by_cases a5:k<l.length
  .have c3:(k:Int)<(l.length:Int):=A7;obtain⟨B,h,M,N,c4,a6,a7,O,P⟩:=hG.at a5;subst c4;obtain⟨n,p,rfl,d8,d9⟩:=i.o.slice;have v:=c.range a6 a7;have Q:B<f.heap.size:=NR a6 c.size;have A:=hs (l.getD k Qq.zero) (by simp[List.getD,a5]);obtain⟨d,a8⟩:=ai (l.getD k Qq.zero);rw[<-a8] at v O P A;have R:=v 0 _ rfl;have c1:=v 1 _ rfl;have c2:=v 2 _ rfl;rw[OJ] at R;have c5:=Kz (O.kept c);have c6:=Kz (P.kept c);clear v a8 a7 O P;have a9:Hid (∀w',K_ f w'->(λw'=>w'.cell? ⟨w.heap.size+2,0,none⟩=some (.slice n r.length p)/\w'.cell? ⟨w.heap.size,0,none⟩=some (.slice (some ⟨B,h,none⟩) l.length cap)/\w'.cell? ⟨B,h+k*3,none⟩=some (.string d.name)/\w'.cell? ⟨B,h+k*3+1,none⟩=some (.a d.cost)/\w'.cell? ⟨B,h+k*3+2,none⟩=some (.slice M d.steps.length N)) w'):=λw' x=>⟨(x.cell K).trans J,(x.cell A7).trans H,(x.cell Q).trans R,(x.cell Q).trans c1,(x.cell Q).trans c2⟩
   go_upto_region 5 with fail
   go_cut [5,6] from 15 to 24 (λs5 s6 wx=>LF mN f s5 s6 wx)
   case first=>
    go_region_held (λw'=>w'.cell? ⟨w.heap.size+2,0,none⟩=some (.slice n r.length p)/\w'.cell? ⟨w.heap.size,0,none⟩=some (.slice (some ⟨B,h,none⟩) l.length cap)/\w'.cell? ⟨B,h+k*3,none⟩=some (.string d.name)/\w'.cell? ⟨B,h+k*3+1,none⟩=some (.a d.cost)/\w'.cell? ⟨B,h+k*3+2,none⟩=some (.slice M d.steps.length N)) (exact bC a9 _ (by repeat (first | (refine K_.setCell ?_ D7 _) | (with_reducible exact K_.refl _) | (with_reducible assumption) | apply K_.drew | apply K_.alloc))) ((go_at_call 212;refine (Kg _ n p r d M N c0 A7 s.o A (i.o.Lg.kept F4) (i.o.nodes.kept F4) (c5.o.kept F4) (c6.o.kept F4)).mono ?_;rintro e S ⟨c8,c9,q,C,e0,d0,rfl,b0,b1,T,b2,b3⟩;have a:K_ f S:=K_.trans F4 b3;have b4:=Kz (bM.gN T b2);have b5:f.heap.size<=d0:=NT (K_.size F4) b1;have b6:=Kz ((lV.gN (L:=C) T).mono b5);have D:=Kz b0;clear b0 T b2 b1 b5;(first | (have E:=Cw (t:=25) (c:= #[J3]) b3;(try simp only[OC] at E);have U:=Kz E;obtain⟨⟨_,t0⟩,f0⟩:=E.row.at (i:=0) A8;clear E) | skip)))
    .go_wp2
     go_meet
     exact⟨_,_,q,C,rfl,rfl,a.alloc _,A9,A9,b4.o.kept (ah _ _),D.o.len,D.o.tiny s.o A,b6.o⟩
    .go_wp2
     go_meet
     have V:=NU S f.heap.size 0 [.slice c8 C.length c9] (U.o.row.there (o:=0) (m:=1) (NQ _));exact⟨_,_,q,C,rfl,rfl,a.setCell A9 _,by rw[size_setCell];exact U.o.lt,V 0 _ rfl,b4.o.same (U.o.same (o:=0) _) A8 A8 A8 A8,D.o.len,D.o.tiny s.o A,b6.o⟩
   case rest=>
    obtain⟨xb,v7,q,r7,rfl,rfl,a,zx,x0,W,d1,b7,d2⟩:=hcut;obtain⟨S,rfl⟩:=ai wc;have z7:=NR K a.size;have o7:=(a.cell (o:=0) K).trans J;have p7:=(a.cell (o:=0) (A7:w.heap.size<f.heap.size)).trans H;obtain⟨e1,c7,rfl,_,_⟩:=W.slice;have⟨d3,d4⟩:=aH W b7;have b8:=Kz (j.o.kept a);have y:=Kz (a4.o.kept a);have d5:=Kz (i.o.kept a);have b9:=c.trans a;have d6:=c.size;obtain⟨⟨_,u0⟩,g0⟩:=y.o.row.at (i:=0) A7;clear W b7 a9 R c1 c2 J H j a4 i a c;by_cases F:q=0
    .have d7:(q == 0)=true:=by simp[F]
     clear F;go_wp2
     go_roundw
     case rel=>
      refine⟨k+1,_,r7,A7,C8,b9.setCell D7 _, ?_,b8.o.block (Below.heap_setCell _ _ _ _ A9),y.o.set _,bu y.o.row A7 _,d3.o.same (y.o.same (o:=0) _) A8 A8 A8 A8,d1,d4.o,d2.mono d6⟩;rw[Ol _ _ _ _ A9];exact p7
     case measure=>simp[intOf];omega
    .have d7:(q == 0)=false:=by simpa using F
     clear F;go_wp2
     go_roundw
     case rel=>exact⟨k+1,_,r,A7,C8,b9,p7,b8.o,y.o,o7,d5.o,a1,s.o,a3⟩
     case measure=>simp[intOf];omega
  .have c3:¬(k:Int)<(l.length:Int):=A7;obtain⟨⟨_,x0⟩,g0⟩:=j.o.row.at (i:=0) A7;have z1:=j.o.lt;obtain⟨n,p,rfl,_,_⟩:=i.o.slice;go_wp2
   have V:=NU f (w.heap.size+1) 0 [.slice n r.length p] (j.o.row.there (o:=0) (m:=1) (NQ _));exact X_ [.slice n r.length p] _ results189 rfl V underlying25 rfl Tryz.mF rfl ⟨_,r,rfl,a1,s.o,i.o.same (j.o.same (o:=0) _) A8 A8 A8 A8,c.setCell A9 _,a3⟩
theorem gu.sorted{M:Nat}{l j:Pv}{rb z:Nat}{a:Pt}{bs:List UInt8}{f t:Nat}{v:Pw}{L:List Qq}{e:Ending}(h:gu M l j rb z a cap bs f v L xs)(A:Ar M j w6 e){b:Nat}(B:aB j b 25 1)(C:w.heap.size<=b)(k0:K_ w l){D:Nat}(E:Rd w rb a cap bs D)
 (F:p<=f) (h2:f<=p+t):∃c vn d,e= .returned (.agg #[.slice c vn d])/\aB w6 b 25 1/\jd M 60 w (w6.setCell ⟨b,0,none⟩ (.slice c vn d)) rb a cap bs p t e:=by
 obtain⟨N,r,m,G,H,n,k,I⟩:=A;obtain⟨c,d,rfl,_,_⟩:=n.slice;have q:=B.kept k;have J:=q.same (o:=0) (.slice c r.length d);have s:Below w.heap.size w6 (w6.setCell ⟨b,0,none⟩ (.slice c r.length d)):=(Below.refl _ _).setCell (p:=⟨b,0,none⟩) C _;have x:Xk rb (rb+1) w w6:=Xk.gp ⟨h.kb.os.trans k0.os,h.kb.tape.trans k0.tape,h.kb.output.trans k0.output,NT k0.size h.kb.size,λi y K=>(h.kb.block i (NR y k0.size) K).trans (k0.block i y)⟩ k;exact⟨c,r.length,d,m,q,_,r,f,m,F,h2,G,H,n.same J A8 A8 A8 A8,(h.rd.kept k).below E s x.size,x.below s,I.mono (NT k0.size h.kb.size)⟩
def bY(g:Ps):Xj:=⟨[],0,[],0,0,true,false,g⟩
theorem iU{g:Ps}(a:g.size<=300):(bY g).TinyN m:=⟨NS _,(λx b=>by simp[bY] at b),I7,NS _,(λe c=>by simp[bY] at c),by show (-9223372036854775808:Int)<=0/\(0:Int)<=9223372036854775807;decide,I7,a⟩
theorem uu(w:Pv)(g:Ps):lY w 9 231 ((bY g).cells none 0 none 0) (bY g):=⟨none,0,none,0,rfl,.inl rfl,.inl rfl,NQ _⟩
theorem qf(g:Ps):lh ((bY g).cells none 0 none 0):=kM (λ_=>⟨rfl,rfl⟩) (λ_=>⟨rfl,rfl⟩)
theorem F_(w:Pv)(c:Array Pw):∀j u,c.toList[j]? =some u->(w.alloc (.cells c 176)).cell? ((⟨w.heap.size,0,none⟩:Addr).add j)=some u:=λj u a=>by
 rw[OI];exact Xz w c 176 j u a
theorem jR.g{rb c:Nat}{a:Pt}{bs:List UInt8}{cost:Int}{v:Pw}{L:List Xj}(h:jR mN w wr rb c a cap bs p cost v L xs):dB wr v L:=(StW.gN h.own h.pack h.oP).g
structure pW where
 code:Int
 res:List fF
 chain:List Ps
 dS:Int
 cost:Int
theorem ut{w1:Pv}{v0 v1 v2 v3 v4:Pw}{t:TypeId}(k:K_ (w.alloc (.cells #[v0,v1,v2,v3,v4] t)) w1):w1.cell? ⟨w.heap.size,0,none⟩=some v0/\w1.cell? ⟨w.heap.size,1,none⟩=some v1/\w1.cell? ⟨w.heap.size,2,none⟩=some v2/\w1.cell? ⟨w.heap.size,3,none⟩=some v3/\w1.cell? ⟨w.heap.size,4,none⟩=some v4:=by
 have h:=Xz w #[v0,v1,v2,v3,v4] t;have z:w.heap.size<(w.alloc (.cells #[v0,v1,v2,v3,v4] t)).heap.size:=A9;exact⟨(k.cell z).trans (h 0 _ rfl),(k.cell z).trans (h 1 _ rfl),(k.cell z).trans (h 2 _ rfl),(k.cell z).trans (h 3 _ rfl),(k.cell z).trans (h 4 _ rfl)⟩
def oM(W:bR)(σ:Env)(n:Ps):fF:=
 match aP W σ n with
 | some x=>⟨n,true,x.fail,x.text⟩
 | none=>⟨n,false,false,⟨#[]⟩⟩
theorem IU{W:bR}{σ:Env}{n:Ps}:(oM W σ n).over= (aP W σ n).isSome:=by
 unfold oM;cases aP W σ n <;> rfl
def Ms(σ:Env):Prop:=∀n r,σ n=some r->r.over=false->r.fail=false/\r.text= ⟨#[]⟩
theorem sN{A:eY}{r:Qz}(h:r.fail=false/\r.text= ⟨#[]⟩)(a:(bK A r).1.over=false):(bK A r).1.fail=false/\(bK A r).1.text= ⟨#[]⟩:=by
 unfold bK at a⊢;simp only at a⊢;by_cases b:(stepOf A r.at').fin=true
 .rw[Pe b] at a;cases a
 .rw[Pf b];exact h
theorem Fj{W:bR}{σ:Env}{r:Qz}(h:r.fail=false/\r.text= ⟨#[]⟩)(a:(Y_ W σ r).1.over=false):(Y_ W σ r).1.fail=false/\(Y_ W σ r).1.text= ⟨#[]⟩:=by
 unfold Y_ at a⊢;cases e:W r.name with
 | none=>exact h
 | some A=>
  rw[e] at a;simp only at a⊢;by_cases b:r.Zj=0
  .rw[Pe b] at a⊢;exact sN h a
  .rw[Pf b] at a⊢;cases f:Yq W σ (stepOf A r.at').asks with
   | none=>exact h
   | some xs=>
    rw[f] at a;simp only at a⊢;by_cases c:r.Zj=20
    .rw[Pe c] at a;cases a
    .rw[Pf c] at a⊢;by_cases d:(bQ (stepOf A r.at') xs).over=true
     .rw[Pe d] at a;cases a
     .rw[Pf d] at a⊢;exact sN (by exact h) a
def bX(l:List fF):List Pw:=(l.map fF.cells).flatten
theorem uG(l:List fF):(bX l).length=l.length*4:=by
 induction l with
 | nil=>rfl
 | cons c r ih=>simp only[bX,List.map_cons,List.flatten_cons,OD,OH] at ih⊢;rw[ih];simp[fF.cells];omega
theorem qC(l:List fF)(c:fF):bX (l++ [c])=bX l++c.cells:=by simp[bX]
theorem rf :∀(l:List fF) (i j:Nat),i<l.length->j<4->(bX l)[i*4+j]? = ((l.getD i fF.zero).cells)[j]?
 | [],_,_,h,_=>aT h
 | c :: r,0,j,_,hj=>by
  have e:bX (c :: r)=c.cells++bX r:=rfl;rw[e,Nat.zero_mul,Ow,OU (by simpa[fF.cells] using hj)]
  rfl
 | c :: r,i+1,j,h,hj=>by
  have e:bX (c :: r)=c.cells++bX r:=rfl;have b:c.cells.length=4:=rfl;rw[e,OV (by rw[b];omega),b,show (i+1)*4+j-4=i*4+j by omega,rf r i j (by simpa using h) hj]
  rfl
theorem yj{t:TypeId}{v:Pw}{l:List fF}(h:w.ownsRow base t 4 v n (bX l)):∃a cap,v= .slice a l.length cap/\oO w a l:=by
 have d:n=l.length:=by have:=h.1;rw[uG] at this;omega
 subst d;rcases h.2 with⟨rfl,e⟩|⟨g,cap,m,rfl,p,f,q,_,_,_⟩
 .exact⟨none,0,by rw[e],λi b=>A7⟩
 .refine⟨_,cap,rfl,λi b=>⟨g,0,rfl,aO f,λj u c=>?_⟩⟩;have k:j<4:=by have:=(NW.1 c).1;simpa[fF.cells] using this
  have:=h.cells (g:=g) rfl (i*4+j) u (by rw[rf l i j b k];exact c);rw[OI,Ow] at this;rw[Ow];exact this
def iB(W:bR)(n:Ps):Int:=match W n with | some A=>A.cost | none=>0
theorem pX{W:bR}{n:Ps}{A:eY}(h:W n=some A):iB W n=A.cost:=by unfold iB;rw[h]
def dX(l:List Qz):Int:=(l.map λr=>r.Zj).sum
def gy(W:bR)(l:List Qz):Int:=(l.map λr=>r.Zj*iB W r.name).sum
theorem CL(l:List Qz)(r:Qz):dX (l++ [r])=dX l+r.Zj:=by simp[dX]
theorem EC(W:bR)(l:List Qz)(r:Qz):gy W (l++ [r])=gy W l+r.Zj*iB W r.name:=by simp[gy]
theorem uL{W:bR}(a:aX W)(n:Ps):0<=iB W n/\iB W n<=20:=by
 unfold iB;cases h:W n with
 | none=>exact⟨Int.le_refl _,A8⟩
 | some A=>have:=(a n A h).1.1;show 0<=A.cost/\A.cost<=20;exact⟨A7,this.2⟩
theorem xX :∀{l:List Qz},(∀r∈l,0<=r.Zj/\r.Zj<=20)->0<=dX l/\dX l<=20*(l.length:Int)
 | [],_=>⟨Int.le_refl _,Int.le_refl _⟩
 | r :: l,h=>by
  have b:=xX (l:=l) (λx a=>h x (Oi _ a));have c:=h r (List.mem_cons_self ..);have e:dX (r :: l)=r.Zj+dX l:=by simp[dX]
  rw[e,OH];omega
theorem Mm{v c:Int}(a:0<=v/\v<=20)(h2:0<=c/\c<=20):0<=v*c/\v*c<=400:=by
 refine⟨Int.mul_nonneg a.1 h2.1, ?_⟩;have b:v*c<=20*c:=Int.mul_le_mul_of_nonneg_right a.2 h2.1;omega
theorem BO{W:bR}(a:aX W):∀{l:List Qz},(∀r∈l,0<=r.Zj/\r.Zj<=20)->0<=gy W l/\gy W l<=400*(l.length:Int)
 | [],_=>⟨Int.le_refl _,Int.le_refl _⟩
 | r :: l,h=>by
  have c:=BO a (l:=l) (λx b=>h x (Oi _ b));have d:=Mm (h r (List.mem_cons_self ..)) (uL a r.name);have e:gy W (r :: l)=r.Zj*iB W r.name+gy W l:=by simp[gy]
  rw[e,OH];omega
variable {Kj : List Qq}
theorem Mc(c:aX (Q_ Kj)){l:List Qz}(a:dR Kj l)(f:l.length<=60)(k:Nat):0<=dX (l.take k)/\dX (l.take k)<=1200/\0<=gy (Q_ Kj) (l.take k)/\gy (Q_ Kj) (l.take k)<=24000:=by
 have h:∀r∈l.take k,0<=r.Zj/\r.Zj<=20:=λr b=>⟨(a.good r (List.mem_of_mem_take b)).lo,(a.good r (List.mem_of_mem_take b)).hi⟩
 have d:=xX h;have e:=BO c h;have i:(l.take k).length<=60:=E9;exact⟨d.1,A7,e.1,A7⟩
theorem pW.ext'{o p:pW}(a:o.code=p.code)(b:o.res=p.res)(h2:o.chain=p.chain)(c:o.dS=p.dS)(d:o.cost=p.cost):o=p:=by
 cases o;cases p;simp only at a b h2 c d;rw[a,b,h2,c,d]
def Al :pW:=⟨9,[],[],0,0⟩
theorem zY{a:List Qz}(b:dR Kj a){n:Ps}(c:n.size<=20):(oM (Q_ Kj) (Qj a) n).text.size<=200:=by
 unfold oM;cases h:aP (Q_ Kj) (Qj a) n with
 | none=>exact NS _
 | some x=>exact xE b.env c h
theorem fK.Mh{Kk:List Ps}{d:List Qz}(f:fK Kj Kk d):∀n∈Kk,(∃r∈d,r.name=n)\/Q_ Kj n=none:=by
 obtain⟨_,_,_,l,L,p,i,_,rfl⟩:=f;have h:=i.keeps (P:=λσ=>∀n∈Kk,(σ n).isSome=true\/Q_ Kj n=none) (λσ m h j n b=>by
  rcases h n b with a|a
  .refine .inl ?_;obtain⟨r,c,_⟩:=j.1;rw[ed c];by_cases e:n=m
   .rw[Pe e];rfl
   .rw[Pf e];cases k:σ n with
    | none=>rw[k] at a;cases a
    | some x=>rfl
  .exact .inr a) (λn b=>by
  rw[fQ];cases q:Q_ Kj n with
  | none=>exact .inr rfl
  | some A=>rw[Pe ⟨bT.2 b,rfl⟩];exact .inl rfl)
 intro n b;rcases h n b with a|a
 .obtain⟨r,c⟩:=Om.1 a;exact .inl ⟨r,(aN c).1,(aN c).2⟩
 .exact .inr a
section
variable {E : Ps -> Ps -> Prop} {x : Ps} {out more list : List Ps}
theorem yt{l:List Ps}(h:nD l):l.Nodup:=h.imp λ{_a _b} b=>dU b
end
theorem kF.one{W:bR}{σ:Env}{r:Qz}{L e:List Ps}(f:(W r.name).isSome=true)(v:kF W σ r L)(w:kF W σ r e):L=e:=by
 obtain⟨x,c,h⟩:=v;obtain⟨m,b,k⟩:=w;have l:∀{i j:Nat} {A B:List Ps},aJ W σ r.name i= (r,A)->aJ W σ r.name j= (r,B)->(∀q,q<i->aZ W σ (aJ W σ r.name q).1)->(∀q,q<j->aZ W σ (aJ W σ r.name q).1)->¬i<j:=λ{i j A B} y n z p C=>by
  have d:=(p i C).1;have s:=fO f z d;rw[y] at d s;have t:=fO f p (by rw[n];exact d);rw[n] at t;simp only at s t;omega
 have:x=m:=by
  have a:=l c b h k;have D:=l b c k h;omega
 subst this;rw[c] at b;exact (Prod.mk.inj b).2
def vX(W:bR)(σ:Env):Prop:=∀n r,σ n=some r->r.name=n/\∃L,kF W σ r L
theorem vX.did{W:bR}{σ:Env}{n:Ps}(j:vX W σ)(b:bi W σ n):vX W (doX W σ n):=by
 obtain⟨r,d,l⟩:=b;have b:bi W σ n:=⟨r,d,l⟩;intro m q a;rw[ed d] at a;by_cases e:m=n
 .rw[Pe e] at a;cases a;obtain⟨f,L,h⟩:=j n r d;exact⟨by rw[bP,f,e],_,(h.unit l).mono b⟩
 .rw[Pf e] at a;cases i:σ m with
  | some x=>
   rw[i] at a;simp only[OE] at a;subst a;obtain⟨f,L,h⟩:=j m x i;exact⟨f,L,h.mono b⟩
  | none=>
   rw[i] at a;simp only at a
   split at a
   .cases a;exact⟨rfl,_,kF.start m⟩
   .cases a
section
variable {E : Ps -> Ps -> Prop} {names done asks out : List Ps} {name x : Ps} {l0 k : Nat} {b : Bool}
end
structure ClT (W:bR) (σ:Env):Prop where
 Lc:vX W σ
 web:∀n r,σ n=some r->(W n).isSome=true
 cl:∀n r L,σ n=some r->kF W σ r L->∀m∈L,(W m).isSome=true->(σ m).isSome=true
variable {W : bR} {n : Ps} {σ : Env}
theorem qB{m:Ps}(a:bi W σ n)(h:(σ m).isSome=true):(doX W σ n m).isSome=true:=by
 obtain⟨r,b,_⟩:=a;rw[ed b];by_cases e:m=n
 .rw[Pe e];rfl
 .rw[Pf e];obtain⟨x,c⟩:=Om.1 h;rw[c];rfl
theorem ClT.did(h:ClT W σ)(b:bi W σ n):ClT W (doX W σ n):=by
 have v:=h.Lc.did b;obtain⟨r,c,w⟩:=b;have b:bi W σ n:=⟨r,c,w⟩;have z:∀m q,doX W σ n m=some q->(W m).isSome=true:=λm q a=>by
  rw[ed c] at a;by_cases f:m=n
  .rw[f];exact h.web n r c
  .rw[Pf f] at a;cases d:σ m with
   | some x=>exact h.web m x d
   | none=>
    rw[d] at a;simp only at a
    split at a
    .next g=>exact g.2
    .cases a
 refine⟨v,z,λm q L a l y e p=>?_⟩;have s:=(v m q a).1;have t:=z m q a;have D:=a;rw[ed c] at a;by_cases f:m=n
 .rw[Pe f] at a;cases a;obtain⟨B,k,i⟩:=h.Lc n r c;have C:kF W (doX W σ n) (Y_ W σ r).1 (k++ (Y_ W σ r).2):=(i.unit w).mono b;have j:=kF.one (by rw[s];exact t) l C;rw[j] at e;rcases N_.1 e with g|g
  .exact qB b (h.cl n r k c i y g p)
  .rw[ed c];by_cases A:y=n
   .rw[Pe A];rfl
   .rw[Pf A];cases E:σ y with
    | some x=>rfl
    | none=>simp only;rw[Pe ⟨bT.2 g,p⟩];rfl
 .rw[Pf f] at a;cases d:σ m with
  | some x=>
   rw[d] at a;simp only[OE] at a;subst a;obtain⟨B,k,i⟩:=h.Lc m x d;have j:=kF.one (by rw[s];exact t) l (i.mono b);rw[j] at e;exact qB b (h.cl m x k d i y e p)
  | none=>
   rw[d] at a;simp only at a
   split at a
   .cases a;have j:=kF.one (by rw[s];exact t) l (kF.start m);rw[j] at e;cases e
   .cases a
variable {Kj : List Qq}
theorem ClT.start(Kk:List Ps):ClT (Q_ Kj) (Qj (eT Kj Kk)):=by
 have d:∀n r,Qj (eT Kj Kk) n=some r->r=Qz.fresh n/\(Q_ Kj n).isSome=true:=λn r b=>by
  rw[fQ] at b
  split at b
  .next g=>cases b;exact⟨rfl,g.2⟩
  .cases b
 refine⟨λn r b=>?_,λn r b=>(d n r b).2,λn r L b f y e _=>?_⟩
 .obtain⟨rfl,_⟩:=d n r b;exact⟨rfl,_,kF.start n⟩
 .obtain⟨rfl,h⟩:=d n r b;have i:=kF.one (by exact h) f (kF.start n);rw[i] at e;cases e
variable {τ : Env}
theorem ClT.led{k:Nat}(h:ClT W σ)(b:bB (bi W) (doX W) σ τ k):ClT W τ :=b.keeps (P:=ClT W) (λ_ _ g c=>g.did c) h
theorem xu{k:Nat}:∀{m:Nat},k<=m->∀y∈(aJ W σ n k).2,y∈(aJ W σ n m).2
 | 0,h,y,hy=>by
  obtain rfl:k=0:=A7;exact hy
 | m+1,h,y,hy=>by
  by_cases e:k=m+1
  .subst e;exact hy
  .unfold aJ;exact N_.2 (.inl (xu (m:=m) A7 y hy))
def DC(W:bR)(σ:Env)(n:Ps)(k:Nat):Env:=λm=>if m=n then some (aJ W σ n k).1 else match σ m with
 | some x=>some x
 | none=>if dM (aJ W σ n k).2 m=true/\(W m).isSome=true then some (Qz.fresh m) else none
theorem Ak :∀(j:Nat) {σ:Env} {k0:Nat},σ n=some (aJ W σ n k0).1->(∀i,i<k0+j->aZ W σ (aJ W σ n i).1)->(∀y∈(aJ W σ n k0).2,(W y).isSome=true->(σ y).isSome=true)->bB (bi W) (doX W) σ (DC W σ n (k0+j)) j
 | 0,σ,k0,h,_,hcl=>by
  have e:DC W σ n (k0+0)=σ:=by
   funext m
   unfold DC;rw[OJ];by_cases e:m=n
   .rw[Pe e,e,h]
   .rw[Pf e];cases d:σ m with
    | some x=>rfl
    | none=>
     simp only;rw[Pf];rintro⟨q,r⟩;have:=hcl m (bT.1 q) r;rw[d] at this;cases this
  rw[e];exact .here σ
 | j+1,σ,k0,h,hg,hcl=>by
  have s:=hg k0 A7;have b:bi W σ n:=⟨_,h,s⟩;have c:∀{i:Nat},i<=k0+ (j+1)->aJ W (doX W σ n) n i=aJ W σ n i:=λ{i} t=>jL b (λv B=>hg v A7)
  have w:doX W σ n n=some (aJ W (doX W σ n) n (k0+1)).1:=by
   rw[je h,c A7]
   rfl
  have z:=Ak j (σ:=doX W σ n) (k0:=k0+1) w (λi t=>by rw[c A7];exact (hg i A7).mono b) (λy f l=>by
   rw[c A7] at f;have A:y∈(aJ W σ n k0).2++ (Y_ W σ (aJ W σ n k0).1).2:=f;rcases N_.1 A with g|g
   .exact qB b (hcl y g l)
   .rw[ed h];by_cases p:y=n
    .rw[Pe p];rfl
    .rw[Pf p];cases C:σ y with
     | some x=>rfl
     | none=>simp only;rw[Pe ⟨bT.2 g,l⟩];rfl)
  have e:DC W (doX W σ n) n (k0+1+j)=DC W σ n (k0+ (j+1)):=by
   funext m
   unfold DC;rw[show k0+1+j=k0+ (j+1) by omega,c A7];by_cases a:m=n
   .rw[Pe a,Pe a]
   .rw[Pf a,Pf a,ed h,Pf a];cases d:σ m with
    | some x=>rfl
    | none=>
     simp only;by_cases g:dM (Y_ W σ (aJ W σ n k0).1).2 m=true/\(W m).isSome=true
     .rw[Pe g];simp only;rw[Pe];refine⟨bT.2 (xu (k:=k0+1) A7 m ?_),g.2⟩;exact N_.2 (.inr (bT.1 g.1))
     .rw[Pf g]
  rw[<-e];exact .step σ _ n j b z
def oC(W:bR)(σ τ :Env):Prop:=∀n,aP W σ n=aP W τ n
theorem oC.answers(h:oC W σ τ):∀l,Yq W σ l=Yq W τ l
 | []=>rfl
 | a :: l=>by unfold Yq;rw[h a,oC.answers h l]
theorem oC.can(h:oC W σ τ)(r:Qz):aZ W σ r↔aZ W τ r:=by unfold aZ;simp only[h.answers]
theorem oC.next(h:oC W σ τ)(r:Qz):Y_ W σ r=Y_ W τ r:=by unfold Y_;simp only[h.answers]
theorem oC.again(h:oC W σ τ)(n:Ps):∀k,aJ W σ n k=aJ W τ n k
 | 0=>rfl
 | k+1=>by unfold aJ;rw[oC.again h n k,h.next]
theorem H_{j k:Nat}(c:bB (bi W) (doX W) σ τ j):(∀i,i<k->aZ W σ (aJ W σ n i).1)->(∀i,i<=k->aJ W τ n i=aJ W σ n i)/\∀i,i<k->aZ W τ (aJ W τ n i).1:=by
 induction c with
 | here s=>exact λh=>⟨λ_ _=>rfl,h⟩
 | step s t m j hr _ ih=>
  intro h;have b:∀{i:Nat},i<=k->aJ W (doX W s m) n i=aJ W s n i:=λ{i} a=>jL hr (λq f=>h q A7)
  obtain⟨d,e⟩:=ih (λi a=>by rw[b A7];exact (h i a).mono hr);exact⟨λi a=>(d i a).trans (b a),e⟩
theorem LB{j:Nat}(names:List Ps)(e:bB (bi W) (doX W) σ τ j):WfX W σ->(∀n,(W n).isSome=true->n∈names)->cZ names τ +j<=cZ names σ:=by
 induction e with
 | here s=>exact λ_ _=>NQ _
 | step s t m j hr _ ih=>
  intro a b;have f:=ih (BQ a hr) b;obtain⟨r,d,_⟩:=hr;have h:=(kK a ⟨r,d,G6⟩ names).2 (b m (a m r d).web);omega
def Dv(Kj:List Qq)(Kk:List Ps)(sl:List Qz):Prop:=
 dR Kj sl/\(∃k,bB (bi (Q_ Kj)) (doX (Q_ Kj)) (Qj (eT Kj Kk)) (Qj sl) k)/\AtEnd (bi (Q_ Kj)) (Qj sl)
theorem Dv.one{Kk:List Ps}{a b:List Qz}(h:Dv Kj Kk a)(k:Dv Kj Kk b):b=a:=by
 obtain⟨c,⟨l,d⟩,e⟩:=h;obtain⟨f,⟨m,i⟩,j⟩:=k;exact yF f.asc c.asc (i.unique tY j d e)
structure Bb (Kj:List Qq) (Kk:List Ps) (sl:List Qz) (o:pW):Prop where
 fin:Dv Kj Kk sl
 res:o.res=Kk.map (oM (Q_ Kj) (Qj sl))
 dS:o.dS=dX sl
 cost:o.cost=gy (Q_ Kj) sl
 rest:((¬∃r∈o.res,r.over=false)/\o.code=0/\o.chain=[])\/((∃r∈o.res,r.over=false)/\o.code=1/\ou (bg (Q_ Kj) (Qj sl)) o.chain)
theorem Bb.one{Kk:List Ps}{m n:List Qz}{o p:pW}(h:Bb Kj Kk m o)(k:Bb Kj Kk n p):p=o:=by
 obtain rfl:=h.fin.one k.fin;have i:p.res=o.res:=k.res.trans h.res.symm;have j:=k.rest;rw[i] at j;have l:p.code=o.code/\p.chain=o.chain:=by
  rcases h.rest with⟨a,b,c⟩ | ⟨a,b,c⟩ <;> rcases j with⟨d,e,f⟩ | ⟨d,e,f⟩
  .exact⟨e.trans b.symm,f.trans c.symm⟩
  .exact Pg d a
  .exact Pg a d
  .exact⟨e.trans b.symm,f.unique c⟩
 exact pW.ext' l.1 i l.2 (k.dS.trans h.dS.symm) (k.cost.trans h.cost.symm)
def gL(Kj:List Qq)(Kk:List Ps)(o:pW):Prop:=(o.res.length<=10/\o.chain.length<=60)/\((bF Kj 0/\eX Kk/\∃sl,Bb Kj Kk sl o)\/(¬(bF Kj 0/\eX Kk)/\o=Al))
theorem gL.one{Kk:List Ps}{o p:pW}(h:gL Kj Kk o)(k:gL Kj Kk p):p=o:=by
 rcases h.2 with⟨c,d,i,e⟩|⟨c,d⟩
 .rcases k.2 with⟨_,_,j,f⟩|⟨a,b⟩
  .exact e.one f
  .exact Pg ⟨c,d⟩ a
 .rcases k.2 with⟨a,b,_⟩|⟨a,b⟩
  .exact Pg ⟨a,b⟩ c
  .rw[d,b]
section
variable {W : bR} {σ τ : Env}
theorem Mv{k:Nat}(h:bB (bi W) (doX W) σ τ k):bB (Behind (W:=W) (λr _=>r.over=false) (λn=>some (Qz.fresh n))) (doX W) σ τ k:=
 h.wide λ_ _ a=>⟨a,by obtain⟨r,c,d⟩:=a;exact⟨r,_,c,rfl,d.1⟩⟩
theorem Nv{τ :Env}:∀{j:Nat} {σ:Env},WfX W σ->bB (bi W) (doX W) σ τ j->bB (Behind (W:=W) fI τ) (doX W) σ τ j:=by
 intro j
 induction j with
 | zero=>intro σ _ h;cases h;exact .here _
 | succ j ih=>
  intro σ b h;cases h with
  | step _ _ n _ hn hr=>
   have c:=BQ b hn;refine .step _ _ n _ ⟨hn, ?_⟩ (ih c hr);obtain⟨r,a,i⟩:=hn;obtain⟨g,d,l⟩:=sM (Mv hr) c (je a);have f:=b n r a;refine⟨r,g,a,d, ?_⟩;rcases fP i (by rw[f.name];exact f.web) with e|⟨e1,e,eo⟩
   .exact .inl A7
   .have k:=vB (Mv hr) (je a) (λ_ _ e=>by rw[eo] at e;cases e);obtain rfl:=OQ (d.symm.trans k);exact .inr ⟨A7,eo,A7⟩
theorem EP{r:Qz}(h:aZ W σ r)(c:(W r.name).isSome=true):(Y_ W σ r).1.Zj=r.Zj+1\/(r.Zj=20/\(Y_ W σ r).1= {r with over:=true,fail:=true,text:=gX}):=by
 by_cases a:r.Zj=20
 .rcases h.2 with b|⟨f,i,b,d⟩
  .omega
  .exact .inr ⟨a,by unfold Y_;simp[b,d,a]⟩
 .rcases fP h c with e|⟨e,_⟩
  .exact .inl e
  .exact Pg e a
end
variable {Kj : List Qq}
theorem DV{Kk:List Ps}{a:List Qz}{k:Nat}(b:bF Kj 0)(f:eX Kk)(c:dR Kj a)(i:bB (bi (Q_ Kj)) (doX (Q_ Kj)) (Qj (eT Kj Kk)) (Qj a) k):fK Kj Kk a:=by
 refine⟨b,f,c.len,k,a,c,Nv (fH (cO b) Kk).wf i, ?_,rfl⟩;rintro n ⟨⟨r,j,l⟩,p,g,d,e,m⟩;rw[j] at d e;obtain rfl:=OQ d;obtain rfl:=OQ e;rcases m with h|⟨_,h,_⟩
 .omega
 .rw[l.1] at h;cases h
def Ev(x:Ps)(l:List Ps):Nat:=(l.filter λy=>decide (y=x)).length
theorem Ii(x y:Ps)(l:List Ps):Ev x (l++ [y])=Ev x l+if y=x then 1 else 0:=by
 unfold Ev;rw[List.filter_append,OD];by_cases e:y=x <;> simp[e]
structure AZ (T:List Qz) (D:List Ps):Prop where
 no:∀n,Qj T n=none->n∉D/\Ev n D=0
 yes:∀n r,Qj T n=some r->(Ev n D:Int)=r.Zj\/((Ev n D:Int)=r.Zj+1/\r.over=true/\r.text=gX/\r.Zj=20)
theorem AZ.start(Kj:List Qq)(Kk:List Ps):AZ (eT Kj Kk) []:=by
 refine⟨λn _=>⟨A9,rfl⟩,λn r h=>?_⟩;rw[fQ] at h
 split at h
 .cases h;exact .inl rfl
 .cases h
variable {T : List Qz}
theorem AZ.did{D:List Ps}{n:Ps}{r:Qz}(h:AZ T D)(d:dR Kj T)(c:Qj T n=some r)(f:aZ (Q_ Kj) (Qj T) r):AZ (doL (Q_ Kj) T r) (D++ [n]):=by
 have i:=d.wf n r c;have l:(Ev n D:Int)=r.Zj:=by
  rcases h.yes n r c with e|⟨_,e,_⟩
  .exact e
  .rw[f.1] at e;cases e
 refine⟨λm a=>?_,λm x a=>?_⟩ <;> rw[tN d.asc c,ed c] at a <;> rw[Ii] <;> by_cases e:m=n
 .rw[Pe e] at a;cases a
 .rw[Pf e] at a;cases b:Qj T m with
  | some y=>rw[b] at a;cases a
  | none=>
   obtain⟨j,k⟩:=h.no m b;exact⟨by simp[j,e],by rw[k,Pf (Ne.symm e)]⟩
 .rw[Pe e] at a;subst e;obtain rfl:=OQ a;rw[Pe rfl];rcases EP f (by rw[i.name];exact i.web) with e|⟨e1,e2⟩
  .exact .inl (by rw[e];omega)
  .exact .inr (by rw[e2];exact⟨by simp only;omega,rfl,rfl,e1⟩)
 .rw[Pf e] at a;rw[Pf (Ne.symm e),OJ];cases b:Qj T m with
  | some y=>rw[b] at a;cases a;exact h.yes m _ b
  | none=>
   rw[b] at a;simp only at a
   split at a
   .cases a;exact .inl (by rw[(h.no m b).2];rfl)
   .cases a
theorem vV.reach{c:List Int}(l:aX (Q_ Kj)){a:List Qz}{D d:List Ps}(h:vV Kj c T D a d):dR Kj T->AZ T D->dR Kj a/\(∃k,bB (bi (Q_ Kj)) (doX (Q_ Kj)) (Qj T) (Qj a) k)/\fM (Q_ Kj) (Qj a) a []/\AZ a d:=by
 induction h with
 | stop h=>exact λb e=>⟨b,⟨0,.here _⟩,h,e⟩
 | @step T a D d ns r h hn hr _ ih=>
  intro b e;have m:ns.getD (mU c D.length ns.length) ByteArray.empty∈ns:=by
   have i:=ul c D.length hn;simp only[List.getD,NV i,Ph];exact Oa i
  obtain⟨t,n,f⟩:=(h.ready b.asc _).1 m;obtain rfl:=OQ (hr.symm.trans n);obtain⟨p,⟨k,j⟩,q,s⟩:=ih (yn l b (aN hr).1 f) (e.did b hr f);rw[tN b.asc hr] at j;exact⟨p,⟨k+1,.step _ _ _ _ ⟨r,hr,f⟩ j⟩,q,s⟩
theorem IC(a:dR Kj T)(h:fM (Q_ Kj) (Qj T) T []):AtEnd (bi (Q_ Kj)) (Qj T):=λn d=>by
 have:=(h.ready a.asc n).2 d;cases this
theorem EG{Kk:List Ps}{b:List Int}{D:List Ps}(a:bF Kj 0)(d:eX Kk)(h:vV Kj b (eT Kj Kk) [] T D):fK Kj Kk T/\fM (Q_ Kj) (Qj T) T []/\Dv Kj Kk T/\AZ T D:=by
 obtain⟨g,⟨k,l⟩,e,c⟩:=h.reach (cO a) (fH (cO a) Kk) (AZ.start Kj Kk);exact⟨DV a d g l,e,⟨g,⟨k,l⟩,IC g e⟩,c⟩
def OnC(E:Ps->Ps->Prop)(c:Ps):Prop:=∃n,aV E (n+1) c c
def BF(E:Ps->Ps->Prop)(x:Ps):Prop:=∃c n,aV E n x c/\OnC E c
def rR(E:Ps->Ps->Prop)(names ns:List Ps):Prop:=nD ns/\∀s,s∈ns↔s∈names/\BF E s
section
variable {E : Ps -> Ps -> Prop} {done reach out : List Ps} {x : Ps}
theorem rR.unique{names b c:List Ps}(h:rR E names b)(k:rR E names c):c=b:=by
 have e:∀s,s∈c↔s∈b:=λs=>(k.2 s).trans (h.2 s).symm
 exact (List.perm_ext_iff_of_nodup (yt k.1) (yt h.1)).2 e |>.eq_of_pairwise (le:=λa d=>aR a d) (λa d _ _ f i=>Pg i (dW f)) k.1 h.1
end
theorem Tryz.Em :(prog.info? 40).map (·.size)=some 7:=C9
theorem Tryz.Ei :(prog.info? 40).map (λi=>(i.zero,i.size,i.bytes))=some (some (.agg #[.string ⟨#[]⟩,.bool false,.bool false,.string ⟨#[]⟩,.a 0,.a 0,J3]),7,80):=C9
theorem Tryz.FL :(prog.info? 32).map (·.size)=some 2:=C9
def jN(w:Pv)(B j lo hi:Nat)(r:Qz):Prop:=
 ∃xa xc,w.rangeAt B (j*7) (r.cells xa xc)/\bW w lo hi xa r.texts/\(xa=none->xc=0)
variable {hi lo : Nat} {w w' : Pv}
theorem jN.same{B j:Nat}{r:Qz}(h:jN w B j lo hi r)(k:Same lo hi w w')(a:w'.rangeAt B (j*7)=w.rangeAt B (j*7)):jN w' B j lo hi r:=by
 obtain⟨b,c,d,e,f⟩:=h;exact⟨b,c,by rw[a];exact d,e.same k,f⟩
def iq(w:Pv)(lo hi:Nat)(a:Pt)(l:List Qz):Prop:=
 l=[]\/∃(b:Nat) (c:Nat->Nat),a=some ⟨b,0,none⟩/\lo<=b/\b<c 0/\c l.length<=hi/\Row w b (l.length*7)/\(∀i j,i<=j->c i<=c j)/\∀i,i<l.length->jN w b i (c i) (c (i+1)) (l.getD i Qz.zero)
variable {l : List Qz} {a : Pt}
theorem iq.same(h:iq w lo hi a l)(k:Same lo hi w w'):iq w' lo hi a l:=by
 rcases h with h|⟨d,c,p,e,f,j,m,b,q⟩
 .exact .inl h
 .have n:d<hi:=NR f (NT (b 0 _ (NS _)) j);refine .inr ⟨d,c,p,e,f,j,k.row e n m,b,λi r=>(q i r).same (k.mono ?_ ?_) (rangeAt_of_block (k d e n m.lt) _)⟩
  .have:=b 0 i (NS _);omega
  .have:=b (i+1) l.length A7;omega
theorem iq.mono{c d:Nat}(h:iq w lo hi a l)(n:c<=lo)(h2:hi<=d):iq w c d a l:=by
 rcases h with h|⟨b,e,f,p,i,q,j,k,m⟩
 .exact .inl h
 .exact .inr ⟨b,e,f,A7,i,A7,j,k,m⟩
theorem iq.runs(h:iq w lo hi a l):fw w a l:=by
 rcases h with rfl|⟨b,c,d,q,r,s,e,t,f⟩
 .intro i hi;simp at hi
 .intro i hi;obtain⟨j,k,m,n,p⟩:=f i hi;exact⟨b,0,j,k,d,e.lt,by rw[Ow];exact m,n.strs,p⟩
theorem jN.kept{B j:Nat}{r:Qz}(h:jN w B j lo hi r)(k:K_ w w')(c:B<w.heap.size):jN w' B j lo hi r:=
 h.same (k.same _ _) (rangeAt_of_block (k.block B c) _)
theorem jN.setCells{B j o:Nat}{r:Qz}{vs:List Pw}(h:jN w B j lo hi r)(a:B<lo)(b:j*7+7<=o\/o+vs.length<=j*7):jN (w.setCells B o vs) B j lo hi r:=by
 obtain⟨c,d,e,f,i⟩:=h;exact⟨c,d,Oh e _ _ _ (by right;simpa[Qz.cells,or_comm] using b),f.same (Same.setCells (.inl a) _ _ _),i⟩
theorem FH{l:List Ps}(h:bW w lo hi a l):a=none->l.length=0:=λe=>by
 rcases h with rfl|⟨c,b,_⟩
 .rfl
 .rw[e] at b;cases b
theorem Eg(w:Pv)(r:Qz)(f:Pt)(j:Nat)(T:r.name.size<=1048576)(U:r.text.size<=1048576)(V:r.texts.length<=1048576)(W:∀s∈r.texts,s.size<=1048576)(X:Strs w f r.texts):
  Calls prog 61 #[.agg #[.string r.name,.bool r.over,.bool r.fail,.string r.text,.a r.at',.a r.Zj,.slice f r.texts.length j]] w λe w'=>∃x,e= .returned (.agg (r.cells x r.texts.length).toArray)/\bW w' w.heap.size w'.heap.size x r.texts/\K_ w w':=by
 go_enter func61,ntmps61
 go_wp2_with fail
 refine (ni _ r.name T).mono ?_;rintro e l ⟨rfl,n⟩;have F:K_ w l:=K_.trans ((ah _ _).alloc _) n;have Y:=n.size;simp only[OC] at Y;have G:=aB.kept (aB.made w #[.string r.name,.bool r.over,.bool r.fail,.string r.text,.a r.at',.a r.Zj,.slice f r.texts.length j] 40) (K_.trans (ah _ _) n);have k:l.rangeAt w.heap.size 0 [.string r.name,.bool r.over,.bool r.fail,.string r.text,.a r.at',.a r.Zj,.slice f r.texts.length j]:=λZ a0 hv=>by
  rw[(K_.trans (ah _ _) n:K_ (w.alloc (.cells #[.string r.name,.bool r.over,.bool r.fail,.string r.text,.a r.at',.a r.Zj,.slice f r.texts.length j] 40)) l).cell A9];exact Xz w #[.string r.name,.bool r.over,.bool r.fail,.string r.text,.a r.at',.a r.Zj,.slice f r.texts.length j] 40 Z a0 hv
 have H:aB l (w.heap.size+1) 40 7:=by
  have I:=aB.kept (aB.made (w.alloc (.cells #[.string r.name,.bool r.over,.bool r.fail,.string r.text,.a r.at',.a r.Zj,.slice f r.texts.length j] 40)) #[.string ⟨#[]⟩,.bool false,.bool false,.string ⟨#[]⟩,.a 0,.a 0,J3] 40) n;rw[OC] at I;exact I
 have p:Hid (aB l w.heap.size 40 7):=G;have J:Hid (aB l (w.heap.size+1) 40 7):=H;have t:=k 1 _ rfl;have v:=k 2 _ rfl;have K:=k 3 _ rfl;have y:=k 4 _ rfl;have z:=k 5 _ rfl;have A:=k 6 _ rfl;simp only[Ow] at t v K y z A;obtain⟨⟨_,x0⟩,g0⟩:=p.o.row.at (i:=0) A7;clear G k H n;go_wp2_with fail
 refine (ni _ r.text U).mono ?_;rintro e h ⟨rfl,b⟩;have B:=(p.o.set (o:=0) (.string r.name)).kept b;have a:=(p.o.set (o:=0) (.string r.name)).lt;have L:h.cell? ⟨w.heap.size,0,none⟩=some (.string r.name):=by rw[b.cell a];exact bu p.o.row A7 _
 have M:h.cell? ⟨w.heap.size,1,none⟩=some (.bool r.over):=by rw[b.cell a,Xx A7];exact t
 have N:h.cell? ⟨w.heap.size,2,none⟩=some (.bool r.fail):=by rw[b.cell a,Xx A7];exact v
 have O:h.cell? ⟨w.heap.size,4,none⟩=some (.a r.at'):=by rw[b.cell a,Xx A7];exact y
 have P:h.cell? ⟨w.heap.size,5,none⟩=some (.a r.Zj):=by rw[b.cell a,Xx A7];exact z
 have q6:h.cell? ⟨w.heap.size,6,none⟩=some (.slice f r.texts.length j):=by rw[b.cell a,Xx A7];exact A
 have Q:aB h (w.heap.size+1) 40 7:=(J.o.block (Below.heap_setCell _ _ _ _ A9)).kept b;have C:K_ w h:=K_.trans (F.setCell (NQ _) _) b;have z2:=b.size;rw[size_setCell] at z2;have⟨q,R⟩:=aH B Q;obtain⟨⟨_,x3⟩,g3⟩:=B.row.at (i:=3) A7;clear t v K y z A x0 g0 B Q a p J F b;go_wp2_with fail
 refine (jC _ f j r.texts V W (X.kept (C.setCell (NQ _) _))).mono ?_;rintro e d ⟨x,rfl,D,c⟩;have a:=(q.o.set (o:=3) (.string r.text)).lt;have p0:d.cell? ⟨w.heap.size,0,none⟩=some (.string r.name):=by rw[c.cell a,Xx A7];exact L
 have p1:d.cell? ⟨w.heap.size,1,none⟩=some (.bool r.over):=by rw[c.cell a,Xx A7];exact M
 have p2:d.cell? ⟨w.heap.size,2,none⟩=some (.bool r.fail):=by rw[c.cell a,Xx A7];exact N
 have p3:d.cell? ⟨w.heap.size,3,none⟩=some (.string r.text):=by rw[c.cell a];exact bu q.o.row A7 _
 have p4:d.cell? ⟨w.heap.size,4,none⟩=some (.a r.at'):=by rw[c.cell a,Xx A7];exact O
 have p5:d.cell? ⟨w.heap.size,5,none⟩=some (.a r.Zj):=by rw[c.cell a,Xx A7];exact P
 have S:=(q.o.set (o:=3) (.string r.text)).kept c;have E:aB d (w.heap.size+1) 40 7:=(R.o.block (Below.heap_setCell _ _ _ _ A9)).kept c;have K3:K_ w d:=K_.trans (C.setCell (NQ _) _) c;have z3:=c.size;rw[size_setCell] at z3 D;have⟨b0,HX⟩:=aH E D;obtain⟨⟨_,x6⟩,g6⟩:=S.row.at (i:=6) A7;obtain⟨⟨⟨_,c2⟩,f0⟩,⟨⟨_,b1⟩,f1⟩,⟨⟨_,b2⟩,f2⟩,⟨⟨_,b3⟩,f3⟩,⟨⟨_,b4⟩,f4⟩,⟨⟨_,b5⟩,f5⟩,⟨_,b6⟩,f6⟩:=E.row.all7;clear L M N O P q6 x3 g3 S E a q R C c D;go_wp2
 have hX:Row (d.setCell ⟨w.heap.size,6,none⟩ (.slice x r.texts.length r.texts.length)) (w.heap.size+1) 7:=(b0.o.block (Below.heap_setCell _ _ _ _ A9)).row;have hR:=NU _ (w.heap.size+1) 0 (r.cells x r.texts.length) (hX.there (o:=0) (m:=7) (NQ _));refine X_ (r.cells x r.texts.length) _ results61 rfl hR underlying40 rfl Tryz.Em rfl ⟨x,rfl,bW.mono (lo:=h.heap.size) (hi:=d.heap.size) ?_ A7 A9, ?_⟩
 .repeat (first | (refine bW.setCell ?_ D7 _) | exact HX.o)
 .repeat (first | (refine K_.setCell ?_ D7 _) | exact K3)
theorem BG(w:Pv)(a:Pt)(cap:Nat)(l:List Qz)(hl:l.length<=1048576)(r:∀s∈l,s.name.size<=1048576/\s.text.size<=1048576/\s.texts.length<=1048576/\∀t∈s.texts,t.size<=1048576)(W:fw w a l):
  Calls prog 60 #[.slice a l.length cap,.func (.func 61) #[] #[]] w λe w'=>∃a',e= .returned (.slice a' l.length l.length)/\iq w' w.heap.size w'.heap.size a' l/\K_ w w':=by
 by_cases F:l.length=0
 .have X:l=[]:=Pj F;subst X;go_enter func60,ntmps60
  go_wp2
  go_ret
  exact⟨none,rfl,.inl rfl,K_.refl _⟩
 .have Y:=rF (P:=prog) 30 40 _ _ _ underlying30 Tryz.Ei .i64 .i64 l.length A7 A7;have Z:((l.length:Int) == 0)=false:=by simpa using F
  go_enter func60,ntmps60
  go_wp2
  clear Y Z;have C:=Row.made w (madeCells #[.string ⟨#[]⟩,.bool false,.bool false,.string ⟨#[]⟩,.a 0,.a 0,J3] (l.length*7)) 40;rw[size_madeCells] at C;have G:K_ w (w.alloc (.cells (madeCells #[.string ⟨#[]⟩,.bool false,.bool false,.string ⟨#[]⟩,.a 0,.a 0,J3] (l.length*7)) 40)):=ah _ _;go_loopw [16] (λi wr=>∃k:Nat,k<=l.length/\i= .a k/\K_ w wr/\Row wr w.heap.size (l.length*7)/\∃c:Nat->Nat,w.heap.size<c 0/\c k<=wr.heap.size/\(∀i j,i<=j->c i<=c j)/\∀j,j<k->jN wr w.heap.size j (c j) (c (j+1)) (l.getD j Qz.zero)) (λi _=>l.length-(intOf i).toNat)
  case atStart=>exact⟨0,NS _,rfl,G,C,λ_=>w.heap.size+1,Nat.lt_succ_self _,A9,λ_ _ _=>NQ _,λj v=>aT v⟩
  case round=>
   obtain⟨k,hk,rfl,x,n,c,y,H,h,D⟩:=hrel;have I:=Kz h;clear h;clear C G;by_cases J:k<l.length
   .obtain⟨b,o,a0,cx,rfl,hb,d,K,_⟩:=W.kept x k J;have L:=r (l.getD k Qz.zero) (by simp[List.getD,J]);have M:=Kz D;clear D;generalize r:l.getD k Qz.zero=s at *;have a1:=Kz r;clear r;have N:=d 0 _ rfl;have c1:=d 1 _ rfl;have c2:=d 2 _ rfl;have c3:=d 3 _ rfl;have c4:=d 4 _ rfl;have c5:=d 5 _ rfl;have c6:=d 6 _ rfl;simp only[OJ] at N;have z:=Kz L;clear d L;go_wp2_with fail
    refine (Eg _ s a0 cx z.o.1 z.o.2.1 z.o.2.2.1 z.o.2.2.2 (K.kept (by repeat (first | (refine K_.setCell ?_ A9 _) | apply K_.alloc | exact K_.refl _)))).mono ?_;rintro e f ⟨O,rfl,Q,R⟩;have p:K_ wr f:=K_.trans (by repeat (first | (refine K_.setCell ?_ A9 _) | apply K_.alloc | exact K_.refl _)) R;have a9:=p.size;have S:bW f wr.heap.size f.heap.size O s.texts:=Q.mono A9 (NQ _);have b0:=n.lt;have a2:=x.trans p;have E:=n.kept p;generalize A:s.cells O s.texts.length=q;have B:q.length=7:=by rw[<-A];rfl
    have a3:q.toArray.all (·.oneCell')=true:=by rw[<-A,List.all_toArray,List.all_eq_true];exact Qz.one s _ _
    have T:f.there w.heap.size (k*7) q.toArray.size:=by simpa[B] using E.there (o:=k*7) (m:=7) A7
    have U:(prog.info? 40).map (·.size)=some q.toArray.size:=by rw[Tryz.Em];simp[B]
    have⟨a4,a5,a6⟩:=fu A B U;clear A B U;have HR:Hid (Row f w.heap.size (l.length*7)):=E;have V:=Kz S;have a7:Hid (∀j,j<k->jN f w.heap.size j (c j) (c (j+1)) (l.getD j Qz.zero)):=λj v=>(M.o j v).kept p n.lt
    clear M N c1 c2 c3 c4 c5 c6 x p n E K R Q S;go_wp2_with (refine wpList_store_mid rfl 40 _ _ rfl w.heap.size (k*7) q.toArray rfl rfl T (bC a6) a3 ?_)
    go_roundw
    case rel=>
     have h:=I.o;refine⟨k+1,A7,C8,K_.setCells (NQ _) _ _ a2,Row.setCells _ _ HR.o,cutAt c k f.heap.size,by rw[ll (NS _)];exact y,by rw[qj A7,size_setCells];exact NQ _,Es h A7,λj v=>?_⟩;by_cases e:j=k
     .subst e;rw[bC a1,ll (NQ _),qj A7];have a8:w.heap.size<c j:=NR y (h 0 j (NS _));exact⟨_,_,by rw[a4.o];exact NU _ _ _ _ (by simpa using T),(V.o.mono H (NQ _)).same (Same.setCells (.inl a8) _ _ _),FH V.o⟩
     .rw[ll A7,ll A7];exact (a7.o j A7).setCells (NR y (h 0 j (NS _))) (by rw[a5.o];omega)
    case measure=>simp[intOf];omega
   .go_wp2
    go_ret
    have:k=l.length:=A7;subst this;exact⟨_,rfl,.inr ⟨w.heap.size,c,rfl,NQ _,y,H,n,I.o,D⟩,x⟩
theorem Tryz.yN :(prog.info? 84).map (·.size)=some 4:=C9
theorem Tryz.sI :(prog.info? 84).map (λi=>(i.zero,i.size,i.bytes))=some (some (.agg #[.string ByteArray.empty,.bool false,.bool false,.string ByteArray.empty]),4,40):=C9
theorem fF.one(r:fF):(#[.string r.name,.bool r.over,.bool r.fail,.string r.text]:Array Pw).all (·.oneCell')=true:=
 all_oneCell_toArray (cs:=[.string r.name,.bool r.over,.bool r.fail,.string r.text]) G5
theorem yI(w:Pv)(r:fF)(z:r.name.size<=1048576)(A:r.text.size<=1048576):
  Calls prog 130 #[.agg #[.string r.name,.bool r.over,.bool r.fail,.string r.text]] w λe w'=>e= .returned (.agg #[.string r.name,.bool r.over,.bool r.fail,.string r.text])/\K_ w w':=by
 go_enter func130,ntmps130
 go_wp2_with fail
 refine (ni _ r.name z).mono ?_;rintro e a ⟨rfl,b⟩;have j:Row a w.heap.size 4:=Row.kept (Row.alloc (by have:=Row.made w #[.string r.name,.bool r.over,.bool r.fail,.string r.text] 84;simpa using this) _) b;have B:a.cell? ⟨w.heap.size,0,none⟩=some (.string r.name):=by rw[b.cell D7];simp
 have q:a.cell? ⟨w.heap.size,1,none⟩=some (.bool r.over):=by rw[b.cell D7];simp
 have s:a.cell? ⟨w.heap.size,2,none⟩=some (.bool r.fail):=by rw[b.cell D7];simp
 have t:a.cell? ⟨w.heap.size,3,none⟩=some (.string r.text):=by rw[b.cell D7];simp
 have v:Row a (w.heap.size+1) 4:=Row.kept (by have:=Row.made (w.alloc (.cells #[.string r.name,.bool r.over,.bool r.fail,.string r.text] 84)) #[.string ⟨#[]⟩,.bool false,.bool false,.string ⟨#[]⟩] 84;simpa using this) b;have x:K_ w a:=K_.trans F5 b;have C:=(j.at (i:=0) A7).2;have D:=j.lt;have⟨l,y⟩:=aH j v;have k:=Kz (And.intro q (And.intro s t));clear b v j q s;go_wp2_with fail
 have n:Row (a.setCell ⟨w.heap.size,0,none⟩ (.string r.name)) w.heap.size 4:=l.o.set _ rfl _;refine (ni _ r.text A).mono ?_;rintro e d ⟨rfl,c⟩;have f:=n.lt;have p:=n.kept c;have I:d.cell? ⟨w.heap.size,0,none⟩=some (.string r.name):=by rw[c.cell f];exact bu l.o A7 _
 have J:d.cell? ⟨w.heap.size,1,none⟩=some (.bool r.over):=by rw[c.cell f,Xx A7];exact k.o.1
 have K:d.cell? ⟨w.heap.size,2,none⟩=some (.bool r.fail):=by rw[c.cell f,Xx A7];exact k.o.2.1
 have L:d.cell? ⟨w.heap.size,3,none⟩=some (.string r.text):=by rw[c.cell f,Xx A7];exact k.o.2.2
 have h:Hid (Row d (w.heap.size+1) 4):=(y.o.set _ rfl _).kept c;have E:Hid (K_ w d):=K_.trans (K_.setCell x A9 _) c;have M:=(p.at (i:=3) A7).2;have N:=p.lt;obtain⟨⟨O,P⟩,Q⟩:=h.o.at (i:=0) A7;obtain⟨⟨R,S⟩,T⟩:=h.o.at (i:=1) A7;obtain⟨⟨U,V⟩,W⟩:=h.o.at (i:=2) A7;obtain⟨⟨X,Y⟩,Z⟩:=h.o.at (i:=3) A7;clear c n f B t D C l y k x p;go_wp2
 have F:Row (d.setCell ⟨w.heap.size,3,none⟩ (.string r.text)) (w.heap.size+1) 4:=Row.set h.o _ rfl _;have G:=NU _ (w.heap.size+1) 0 r.cells (F.there (o:=0) (m:=4) (NQ _));refine X_ r.cells _ results130 rfl G underlying84 rfl Tryz.yN rfl ⟨rfl, ?_⟩;have H:=E.o
 repeat (first | (refine K_.setCell ?_ D7 _) | exact H)
theorem Ef(w:Pv)(r:fF):
  Calls prog 82 #[.agg #[.string r.name,.bool r.over,.bool r.fail,.string r.text]] w λe w'=>e= .returned (.bool (!r.over))/\K_ w w':=by
 go_enter func82,ntmps82
 go_wp2
 go_ret
 exact⟨rfl,ah _ _⟩
theorem zR(w:Pv)(a:Pt)(cap:Nat)(l:List fF)(H:l.length<=1048576)(y:oO w a l):
  Calls prog 132 #[.slice a l.length cap,.func (.func 82) #[] #[]] w λe w'=>(∃i:Int,e= .returned (.a i)/\(0<=i↔∃r∈l,r.over=false))/\K_ w w':=by
 go_enter func132,ntmps132
 go_wp2
 go_loopw [8] (λi wr=>∃k:Nat,k<=l.length/\i= .a (k:Int)/\Hid (∀r∈l.take k,r.over=true)/\K_ w wr) (λi _=>l.length-(intOf i).toNat)
 case atStart=>exact⟨0,NS _,rfl,Kz (λr j=>by simp at j),K_.refl _⟩
 case round=>
  obtain⟨k,I,rfl,p,m⟩:=hrel;by_cases f:k<l.length
  .obtain⟨b,o,rfl,J,d⟩:=y.kept m k f;obtain⟨c,n⟩:=ai (l.getD k fF.zero);rw[<-n] at d;have q:l[k]=c:=by rw[n];simp[List.getD,f]
   have s:=Kz q;have t:=d 0 _ rfl;have z:=d 1 _ rfl;have A:=d 2 _ rfl;have B:=d 3 _ rfl;simp only[OJ] at t;have K:(k:Int)<(l.length:Int):=A7;clear d n q;go_wp2_with fail
   refine (Ef _ c).mono ?_;rintro e L ⟨rfl,C⟩;have v:=m.trans C;clear t z A B;cases x:c.over
   .go_wp2
    go_ret
    exact⟨⟨_,rfl,λ_=>⟨c,by rw[<-s.o];exact Oa f,x⟩,λ_=>A7⟩,v⟩
   .have D:Hid (∀r∈l.take (k+1),r.over=true):=λr j=>by
     rw[NY f,s.o] at j;rcases N_.1 j with h|h
     .exact p.o r h
     .rw[NZ] at h;rw[h];exact x
    go_wp2
    go_roundw
    case rel=>exact⟨k+1,A7,C8,D,v⟩
    case measure=>simp[intOf];omega
  .have M:¬((k:Int)<(l.length:Int)):=A7;have E:Hid (∀r∈l,r.over=true):=by have h:=p.o;rw[Oy A7] at h;exact h
   clear f;go_wp2
   go_ret
   exact⟨⟨_,rfl,λh=>A7,λ⟨r,F,G⟩=>by have:=E.o r F;rw[G] at this;cases this⟩,m⟩
theorem pK(w:Pv)(a:Pt)(cap:Nat)(l:List fF)(h:l.length<=1048576)(i:oO w a l):
  Calls prog 81 #[.slice a l.length cap,.func (.func 82) #[] #[]] w λe w'=>Says e (∃r∈l,r.over=false)/\K_ w w':=by
 go_enter func81,ntmps81
 go_wp2_with fail
 refine (zR w a cap l h i).mono ?_;rintro e m ⟨⟨j,rfl,b⟩,d⟩;cases f:decide ((0:Int)<=j)
 .have c:Hid (¬∃r∈l,r.over=false):=λk=>by have:=b.2 k;simp[this] at f
  clear b;go_wp2
  go_ret
  exact⟨Says.no c.o,d⟩
 .have c:=Kz (b.1 (by simpa using f));clear b;go_wp2
  go_ret
  exact⟨Says.yes c.o,d⟩
theorem CV(w:Pv)(a:Pt)(cap:Nat)(l:List fF)(W:l.length<=1048576)(G:∀c∈l,c.name.size<=1048576/\c.text.size<=1048576)(H:oO w a l):
  Calls prog 129 #[.slice a l.length cap,.func (.func 130) #[] #[]] w λe w'=>∃a',e= .returned (.slice a' l.length l.length)/\gU w' w.heap.size w'.heap.size a' l/\K_ w w':=by
 by_cases A:l.length=0
 .have I:l=[]:=Pj A;subst I;go_enter func129,ntmps129
  go_wp2
  go_ret
  exact⟨none,rfl,.inl rfl,K_.refl _⟩
 .have J:=rF (P:=prog) 41 84 _ _ _ underlying41 Tryz.sI .i64 .i64 l.length A7 A7;have K:((l.length:Int) == 0)=false:=by simpa using A
  go_enter func129,ntmps129
  go_wp2
  clear J K;have s:=Row.made w (madeCells #[.string ByteArray.empty,.bool false,.bool false,.string ByteArray.empty] (l.length*4)) 84;rw[size_madeCells] at s;have B:K_ w (w.alloc (.cells (madeCells #[.string ByteArray.empty,.bool false,.bool false,.string ByteArray.empty] (l.length*4)) 84)):=ah _ _;go_loopw [16] (λt wr=>∃k:Nat,k<=l.length/\t= .a k/\K_ w wr/\Row wr w.heap.size (l.length*4)/\∀j,j<k->wr.rangeAt w.heap.size (j*4) (l.getD j fF.zero).cells) (λt _=>l.length-(intOf t).toNat)
  case atStart=>exact⟨0,NS _,rfl,B,s,λj h=>aT h⟩
  case round=>
   obtain⟨k,X,rfl,i,f,v⟩:=hrel;clear s B;by_cases C:k<l.length
   .obtain⟨b,o,rfl,Y,d⟩:=H.kept i k C;have n:=G (l.getD k fF.zero) (by simp[List.getD,C]);have D:=Kz v;clear v;obtain⟨c,x⟩:=ai (l.getD k fF.zero);rw[<-x] at d n;have L:=Kz x;clear x;have E:=d 0 _ rfl;have M:=d 1 _ rfl;have N:=d 2 _ rfl;have O:=d 3 _ rfl;simp only[OJ] at E;clear d;have Q:=f.lt;go_wp2_with fail
    refine (yI _ c n.1 n.2).mono ?_;rintro e p ⟨rfl,F⟩;have q:K_ wr p:=K_.trans (by repeat (first | (refine K_.setCell ?_ A9 _) | apply K_.alloc | exact K_.refl _)) F;have R:=i.trans q;have y:=f.kept q;have z:=y.there (o:=k*4) (m:=4) A7;have⟨S,T⟩:=aH z y;have U:Hid (∀j,j<k->p.rangeAt w.heap.size (j*4) (l.getD j fF.zero).cells):=λj h=>q.range Q (D.o j h)
    clear D E M N O i F q f y;go_wp2_with (refine wpList_store_mid ?hgd 84 (.tmp 26) (.tmp 25) (by with_reducible rfl) w.heap.size (k*4) #[.string c.name,.bool c.over,.bool c.fail,.string c.text] ?hx ?hy ?ht ?hi ?h1 ?_)
    case hgd=>rfl
    case hx=>rfl
    case hy=>rfl
    case ht=>exact z
    case hi=>exact Tryz.yN
    case h1=>exact fF.one c
    generalize r:World.setCells p w.heap.size (k*4) (Array.toList #[.string c.name,.bool c.over,.bool c.fail,.string c.text])=Z;have V:=Kz r;clear r z n;go_wp2
    go_roundw
    case rel=>
     have r:=V.o;subst r;refine⟨k+1,A7,C8,K_.setCells (NQ _) c.cells (k*4) R,Row.setCells c.cells (k*4) T.o,λj h=>?_⟩;by_cases e:j=k
     .subst e;rw[<-L.o];exact NU p w.heap.size (j*4) c.cells S.o
     .exact Oh (U.o j A7) w.heap.size (k*4) c.cells (by simp[fF.cells];omega)
    case measure=>simp[intOf];omega
   .go_wp2
    go_ret
    have:k=l.length:=A7;subst this;exact⟨_,rfl,.inr ⟨w.heap.size,rfl,NQ _,f.lt,f,v⟩,i⟩
variable {S : Nat -> Prop}
theorem fA.but{t:TypeId}{l:List Ps}(h:fA w t a l)(k:But S w w')(i:∀b,S b->¬bf w b t):fA w' t a l:=by
 rcases h with h|⟨b,d,e,j,c,m⟩
 .exact .inl h
 .have n:¬S b:=λp=>i b p ⟨d,e,c⟩
  have f:=(k.block b (aO c) n).trans c;exact .inr ⟨b,d,e,j,f,λq r=>by rw[Od (w:=w) (f.trans c.symm)];exact m q r⟩
def cK(w:Pv)(xs:List Pw)(l:List Qz):Prop:=xs.length=l.length*7/\∀i,i<l.length->∃xa xc,(xs.drop (i*7)).take 7= (l.getD i Qz.zero).cells xa xc/\fA w 9 xa (l.getD i Qz.zero).texts/\(xa=none->xc=0)
theorem cK.nil(w:Pv):cK w [] []:=⟨rfl,λi a=>by simp at a⟩
variable {xs : List Pw}
theorem cK.but(h:cK w xs l)(k:But S w w')(a:∀b,S b->¬bf w b 9):cK w' xs l:=⟨h.1,λi c=>by obtain⟨d,e,f,j,m⟩:=h.2 i c;exact⟨d,e,f,j.but k a,m⟩⟩
theorem cK.kept(h:cK w xs l)(k:K_ w w'):cK w' xs l:=h.but (S:=λ_=>False) (But.au k) (λ_ e=>e.elim)
theorem cK.packed(h:cK w xs l):df w (λ_=>True) xs l:=⟨h.1,λi a=>by obtain⟨b,c,d,e,f⟩:=h.2 i a;exact⟨b,c,d,e.strs,f,λ_ _=>trivial⟩⟩
theorem cK.snoc{r:Qz}{a:Pt}{b:Nat}(h:cK w xs l)(j:fA w 9 a r.texts)(k:a=none->b=0):cK w (xs++r.cells a b) (l++ [r]):=by
 refine⟨by simp[h.1,Qz.cells];omega,λi e=>?_⟩;rw[OD] at e;simp only[OH,List.length_nil] at e;by_cases f:i<l.length
 .have c:(l++ [r]).getD i Qz.zero=l.getD i Qz.zero:=by simp[List.getD,OU f]
  have d:((xs++r.cells a b).drop (i*7)).take 7= (xs.drop (i*7)).take 7:=by
   rw[List.drop_append_of_le_length (by rw[h.1];omega),List.take_append_of_le_length (by rw[List.length_drop,h.1];omega)]
  rw[c,d];exact h.2 i f
 .obtain rfl:i=l.length:=A7;have c:(l++ [r]).getD l.length Qz.zero=r:=G9;have d:((xs++r.cells a b).drop (l.length*7)).take 7=r.cells a b:=by
   rw[<-h.1,List.drop_left]
   rfl
  rw[c,d];exact⟨a,b,rfl,j,k⟩
def Jn(w:Pv)(S:Nat->Prop)(a:Pt)(l:List Ps):Prop:=∀i,i<l.length->∃b o,a=some ⟨b,o,none⟩/\b<w.heap.size/\¬S b/\w.cell? ⟨b,o+i,none⟩=some (.string (l.getD i ByteArray.empty))
theorem fA.nst{l:List Ps}(h:fA w 9 a l)(f:∀b,S b->¬bf w b 9):Jn w S a l:=λi c=>by
 rcases h with rfl|⟨b,j,k,m,d,n⟩
 .simp at c
 .exact⟨b,0,m,aO d,λe=>f b e ⟨j,k,d⟩,by rw[Ow];exact n i c⟩
structure KnZ (wz w wr:Pv) (kb:Nat) (v0:Pw) (a:Pt) (n cap:Nat) (R:List Qz) (d:Pt) (dc:Nat) (xs:List Pw):Prop where
 kw:K_ wz wr
 fr:But (λb=>b=kb\/v0.ownBlock=some b) w wr
 nw:∀b,(Value.slice d R.length dc).ownBlock=some b->v0.ownBlock=some b\/w.heap.size<=b
 known:jb wr kb a n cap d R.length dc
 own:wr.ownsRow wz.heap.size 40 7 (.slice d R.length dc) R.length xs
 pack:cK wr xs R
 nl:R.length=0->d=none/\dc=0
section
variable {wz w wr w' : Pv} {kb n cap dc : Nat} {v0 : Pw} {a d : Pt} {R : List Qz} {xs : List Pw}
theorem KnZ.kept(h:KnZ wz w wr kb v0 a n cap R d dc xs)(k:K_ wr w'):KnZ wz w w' kb v0 a n cap R d dc xs:=
 ⟨h.kw.trans k,h.fr.trans (But.au k),h.nw,h.known.kept k,ak h.own k,h.pack.kept k,h.nl⟩
theorem KnZ.again(h:KnZ wz w wr kb v0 a n cap R d dc xs):KnZ wz wr wr kb (.slice d R.length dc) a n cap R d dc xs:=
 ⟨h.kw,But.au (K_.refl _),λ_ e=>.inl e,h.known,h.own,h.pack,h.nl⟩
theorem KnZ.but(h:KnZ wz w wr kb v0 a n cap R d dc xs)(k:But S wr w')(e:∀b,S b->wz.heap.size<=b)(c:¬S kb)(f:∀b,(Value.slice d R.length dc).ownBlock=some b->¬S b)(i:∀b,S b->¬bf wr b 9):KnZ wz w' w' kb (.slice d R.length dc) a n cap R d dc xs:=
 ⟨k.kept h.kw e,But.au (K_.refl _),λ_ j=>.inl j,⟨k.row h.known.row c,(k.cell h.known.row.lt c).trans h.known.web,(k.cell h.known.row.lt c).trans h.known.runs⟩,k.owns h.own f,h.pack.but k i,h.nl⟩
theorem KnZ.runs(h:KnZ wz w wr kb v0 a n cap R d dc xs):fw wr d R:=by
 obtain⟨_,e,f,b,c⟩:=df.runs h.own h.pack.packed (K_.refl _);simp only[OG,true_and] at b;rw[b.1];exact c.runs
theorem KnZ.grown{W w6:Pv}(h:KnZ wz w wr kb v0 a n cap R d dc xs)(k:K_ wr W)(l:W.grownBy w6 (Value.slice d R.length dc).ownBlock):K_ wz w6/\jb w6 kb a n cap d R.length dc/\But (λb=>b=kb\/v0.ownBlock=some b) w w6:=by
 have i:=h.known.kept k;have m:=ak h.own k;have q:=own_ne i.row m;have c:But (λb=>(Value.slice d R.length dc).ownBlock=some b) W w6:=But.aI l (λb j=>j);have e:=c.block kb i.row.lt (λj=>q j.symm);refine⟨aL (h.kw.trans k) (NQ _) m l,⟨i.row.block e,(Od (w:=W) e).trans i.web,(Od (w:=W) e).trans i.runs⟩, ?_⟩;have f:=h.fr.trans (But.au k);refine⟨c.os.trans f.os,c.tape.trans f.tape,c.output.trans f.output,NT f.size c.size,λb e p=>?_⟩;refine (c.block b (NR e f.size) (λj=>?_)).trans (f.block b e p);rcases h.nw b j with g | g
 .exact p (.inr g)
 .omega
theorem dK{W:Pv}{base m:Nat}{v:Pw}{a:List Pw}(h:W.ownsRow base 40 7 v m a):∀b,v.ownBlock=some b->¬bf W b 9:=λ_ e c=>aK (Yz h e) c A8 rfl
theorem KnZ.next{W w6:Pv}{c i:Nat}{v:Ps}(h:KnZ wz w wr kb v0 a n cap R d dc xs)(q:wz.heap.size<=kb)(j:K_ wr W)(l:W.grownBy w6 (Value.slice d R.length dc).ownBlock)
  (m:w6.ownsRow wz.heap.size 40 7 (.b c (R.length+1) i) (R.length+1) (xs++ (Qz.fresh v).cells none 0)) (r:(Value.slice d R.length dc).ownBlock=some c\/c=W.heap.size):
  KnZ wz w (w6.setCell ⟨kb,1,none⟩ (.b c (R.length+1) i)) kb v0 a n cap (R++ [Qz.fresh v]) (some ⟨c,0,none⟩) i (xs++ (Qz.fresh v).cells none 0):=by
 obtain⟨s,f,t⟩:=h.grown j l;have k:(R++ [Qz.fresh v]).length=R.length+1:=A9;have x:=ak h.own j;have y:But (λb=>(Value.slice d R.length dc).ownBlock=some b) W w6:=But.aI l (λb e=>e);have z:cK w6 xs R:=(h.pack.kept j).but y (dK x);have A:But (λb=>b=kb) w6 (w6.setCell ⟨kb,1,none⟩ (.b c (R.length+1) i)):=But.set (S:=λb=>b=kb) (But.au (K_.refl _)) (p:=⟨kb,1,none⟩) rfl _;have B:=z.but A (λb e C=>aK f.row.type C A8 e.symm);refine⟨Below.setCell s (p:=⟨kb,1,none⟩) q _,t.set (.inl rfl) _,λb e=>?_,⟨f.row.set _, ?_, ?_⟩, ?_,B.snoc (.inl rfl) (λ_=>rfl),λe=>(by rw[k] at e;omega)⟩
 .simp only[Value.ownBlock,OE] at e;subst e;rcases r with g|g
  .exact h.nw c g
  .refine .inr ?_;rw[g];exact NT h.fr.size j.size
 .rw[Xx A7];exact f.web
 .rw[k];exact bu f.row.row A7 _
 .rw[k];exact GY m (own_ne f.row m) _
end
theorem qP(wz w:Pv)(kb:Nat)(a8:wz.heap.size<=kb)(a:Pt)(cap:Nat)(Kj:List Qq)(U:Pt)(rc:Nat)(names:List Ps)(l:List Qz)(r:Pt)(s:Nat)(V:List Pw)(G:Kj.length<=1048576)(c1:names.length<=110)(c2:l.length<=1000)
  (f:KnZ wz w w kb (.slice r l.length s) a Kj.length cap l r s V) (H:bN wz a Kj) (hR:Jn w (λb=>b=kb\/(Value.slice r l.length s).ownBlock=some b) U names):
  Calls prog 67 #[.c kb,.slice U names.length rc] w λe w'=>e= .returned (.tuple #[])/\∃d dc xs,KnZ wz w w' kb (.slice r l.length s) a Kj.length cap (dh (Q_ Kj) l names) d dc xs:=by
 have W:=Kz f;clear f;go_enter func67,ntmps67
 go_wp2
 go_loopw [4] (λI wr=>∃(k:Nat) (d:Pt) (dc:Nat) (xs:List Pw),k<=names.length/\I= .a k/\KnZ wz w wr kb (.slice r l.length s) a Kj.length cap (dh (Q_ Kj) l (names.take k)) d dc xs) (λI _=>names.length-(intOf I).toNat)
 case atStart=>exact⟨0,r,s,V,NS _,rfl,W.o⟩
 case round=>
  obtain⟨k,d,dc,xs,hk,rfl,i⟩:=hrel;by_cases X:k<names.length
  .obtain⟨b,o,rfl,A,Y,J⟩:=hR k X;have Z:=Kz Y;clear Y;have L:K_ wz wr:=i.kw;obtain⟨R,M⟩:=ai (dh (Q_ Kj) l (names.take k));have B:=FC (Q_ Kj) l X;rw[<-M] at i B;have c3:R.length<=1110:=by rw[M];have:=Ai (Q_ Kj) (names.take k) l;rw[Oo] at this;omega
   obtain⟨v,a0⟩:=ai (names.getD k ByteArray.empty);rw[<-a0] at J B;have N:=Kz B;have C:=(i.fr.cell A Z.o).trans J;have O:b<wr.heap.size:=NR A i.fr.size;have P:=i.known.web;have Q:=i.known.runs;have D:=i.known.row.lt;have⟨a1,n⟩:=aH i.runs i;clear M a0 B i W;have i0:(k:Int)<(names.length:Int):=A7;by_cases x:(Q_ Kj v).isSome=true
   .have y:Hid (∀w',K_ wr w'->(λw'=>J4 w' kb 0 (.slice a Kj.length cap)/\J4 w' kb 1 (.slice d R.length dc)/\J4 w' b (o+k) (.string v)) w'):=λw' p=>⟨(p.cell D).trans P,(p.cell D).trans Q,(p.cell O).trans C⟩
    by_cases E:(Qj R v).isNone=true
    .go_wp2
     go_region_held (λw'=>J4 w' kb 0 (.slice a Kj.length cap)/\J4 w' kb 1 (.slice d R.length dc)/\J4 w' b (o+k) (.string v)) (exact bC y _ E5) ((first | (go_at_call 37;refine (Da _ a cap Kj v G (H.kept (L.trans E5)) x).mono ?_;rintro e q ⟨⟨r1,rfl⟩,z⟩;have j:K_ wr q:=K_.trans E5 z) | (go_at_call 86;refine (JQ _ kb a Kj.length cap d dc R v A7 (n.o.known.kept (j.trans E5)) (a1.o.kept (j.trans E5)) E).mono ?_;rintro e m ⟨⟨r2,rfl,c4⟩,rfl⟩)))
     all_goals
      have t:=n.o.kept j;have S:=Kz t;have n1:=t.known.runs;have n0:=(j.cell O).trans C;have z2:=t.kw.size;have a9:b<m.heap.size:=NR A t.fr.size;have b0:kb<m.heap.size:=t.known.row.lt;have b1:Hid (∀w',K_ m w'->(λw'=>J4 w' kb 1 (.slice d R.length dc)/\J4 w' b (o+k) (.string v)) w'):=λw' bl=>⟨(bl.cell b0).trans n1,(bl.cell a9).trans n0⟩
      obtain⟨b2,b3,b4,b5,b6⟩:=aY Tryz.yP;clear t;go_wp2
      refine Qx.region C9 (λw'=>J4 w' kb 1 (.slice d R.length dc)/\J4 w' b (o+k) (.string v)) 14 ⟨n1,n0⟩ (λc=>?_);refine ax 0 c ?_;refine ax 4 c ?_;refine ae 8 c ?_;refine ae 9 c ?_;refine aj 10 (λK f=>?_);go_simp
      have F:K_ m (m.alloc (.cells (BR v).toArray 40)).drew:=(ah _ _).drew;refine af f (λ_=>b1.o _ F) ?_;clear f K c;refine aj 11 (λK f=>?_);refine step_append_lies _ rfl (.tmp 34) (.tmp 40) 30 rfl wz.heap.size 40 b2 _ 7 80 underlying30 b3 b4 b5 b6 rfl A8 (.slice d R.length dc) R.length xs D9 (ak S.o.own F) ⟨m.heap.size,0,none⟩ 1 1 (BR v) D9 rfl (λb7 u hu=>by rw[OI];exact Xz m (BR v).toArray 40 b7 u (by simpa using hu)) (EI v) A7 D5 A7 D6 _ rfl ?_;intro g6 b8 w8 a2 T a3 c5;obtain⟨c6,a4,a5⟩:=S.o.grown F T;have a6:=a4.row;obtain⟨⟨_,c7⟩,c8⟩:=a6.row.at (i:=1) A7;have a7:=(show _/\_ from ⟨a4.runs,(a5.cell A Z.o).trans J⟩);have b9:=Kz (KnZ.next (v:=v) S.o a8 F T a2 a3);clear a2 T a3 a6 a5;refine af f (λ_=>a7) ?_;clear f K;have c:=a7;refine ae 12 c ?_;refine ae 13 c ?_;refine aj 14 (λK f=>?_);go_simp
      refine af f (λh=>Pg rfl h) ?_;clear f K;refine aG ?_;go_wp2
      go_roundw
      case rel=>exact⟨k+1,_,b8,_,A7,C8,by rw[N.o,Pe ⟨x,E⟩];exact b9.o⟩
      case measure=>simp[intOf];omega
    .go_wp2
     go_region_held (λw'=>J4 w' kb 0 (.slice a Kj.length cap)/\J4 w' kb 1 (.slice d R.length dc)/\J4 w' b (o+k) (.string v)) (exact bC y _ E5) ((first | (go_at_call 37;refine (Da _ a cap Kj v G (H.kept (L.trans E5)) x).mono ?_;rintro e q ⟨⟨r1,rfl⟩,z⟩;have j:K_ wr q:=K_.trans E5 z) | (go_at_call 86;refine (JP _ kb a Kj.length cap d dc R v A7 (n.o.known.kept (j.trans E5)) (a1.o.kept (j.trans E5)) E).mono ?_;rintro e m ⟨⟨r2,rfl⟩,rfl⟩)))
     all_goals
      go_wp2
      go_roundw
      case rel=>exact⟨k+1,d,dc,xs,A7,C8,by rw[N.o,Pf (λh=>E h.2)];exact n.o.kept j⟩
      case measure=>simp[intOf];omega
   .have y:Hid (∀w',K_ wr w'->(λw'=>J4 w' kb 0 (.slice a Kj.length cap)/\J4 w' kb 1 (.slice d R.length dc)/\J4 w' b (o+k) (.string v)) w'):=λw' p=>⟨(p.cell D).trans P,(p.cell D).trans Q,(p.cell O).trans C⟩
    go_wp2
    refine Qx.region C9 (λw'=>J4 w' kb 0 (.slice a Kj.length cap)/\J4 w' kb 1 (.slice d R.length dc)/\J4 w' b (o+k) (.string v)) 18 ⟨P,Q,C⟩ (λc=>?_);refine ax 0 c ?_;refine ax 4 c ?_;refine aF 8 (λK f=>?_);go_simp
    go_at_call 37
    refine (Jo _ a cap Kj v G (H.kept (L.trans E5)) x).mono ?_;rintro e q ⟨rfl,z⟩;have j:K_ wr q:=K_.trans E5 z;dsimp only;refine f.out _ _ (λ_=>y.o q j) ?_;clear f K c;have c:=y.o q j;try simp only[upP]
    refine ae 9 c ?_;refine ae 10 c ?_;refine aD 11 c ?_;refine aD 12 c ?_;refine aD 13 c ?_;refine aD 14 c ?_;refine aD 15 c ?_;refine aD 16 c ?_;refine aD 17 c ?_;refine aj 18 (λK f=>?_);go_simp
    refine af f (λh=>Pg rfl h) ?_;clear f K;refine aG ?_;go_wp2
    go_roundw
    case rel=>exact⟨k+1,d,dc,xs,A7,C8,by rw[N.o,Pf (λh=>x h.1)];exact n.o.kept j⟩
    case measure=>simp[intOf];omega
  .have c0:k=names.length:=A7;subst c0;rw[Ox] at i;have n:=Kz i;clear i;go_wp2
   go_end0
   exact⟨rfl,_,_,_,n.o⟩
theorem bB.zero{α ι :Type}{ready:α-> ι ->Prop}{step:α-> ι ->α}{s t:α}{k:Nat}(h:bB ready step s t k)(c:k=0):t=s:=by
 cases h with
 | here=>rfl
 | step=>omega
theorem lD(A B:List Qz)(m:Ps):Qj (A++B) m=match Qj A m with | some r=>some r | none=>Qj B m:=by
 unfold Qj;rw[List.find?_append];cases A.find? λr=>decide (r.name=m) <;> rfl
variable {l : List Qz}
theorem tu{n:Ps}:Qj l n=none↔n∉l.map (·.name):=by
 unfold Qj;rw[List.find?_eq_none];constructor
 .intro h b;obtain⟨r,a,e⟩:=Oq.1 b;exact h r a (by simpa using e)
 .intro h r a e;exact h (Oq.2 ⟨r,a,by simpa using e⟩)
theorem qw(d:(l.map (·.name)).Nodup):∀x∈l,∀y∈l,x.name=y.name->x=y:=by
 intro x f y h e;obtain⟨i,a,rfl⟩:=Oc f;obtain⟨j,b,rfl⟩:=Oc h;have c:=Ob.1 d;have:i=j:=by
  rcases Pd i j with g|g|g
  .exact Pg (by rw[List.getElem_map,List.getElem_map];exact e) (c i j (by simpa using a) (by simpa using b) g)
  .exact g
  .exact Pg (by rw[List.getElem_map,List.getElem_map];exact e.symm) (c j i (by simpa using b) (by simpa using a) g)
 subst this
 rfl
theorem gJ(h:(l.map (·.name)).Nodup){r:Qz}(b:r∈l):Qj l r.name=some r:=(qO (qw h)).2 ⟨b,rfl⟩
variable {i : Nat}
theorem kH(hi:i<l.length):l.getD i Qz.zero∈l:=by simp[List.getD,hi]
theorem si{r:Qz}(hi:i<l.length)(a:r.name= (l.getD i Qz.zero).name):(l.set i r).map (·.name)=l.map (·.name):=by
 rw[List.map_set];have:(l.map (·.name))[i]'(by simpa using hi)=r.name:=by simp[a,List.getD,hi]
 rw[<-this,List.set_getElem_self]
theorem Ji(h:(l.map (·.name)).Nodup){r:Qz}(hi:i<l.length)(a:r.name= (l.getD i Qz.zero).name)(m:Ps):Qj (l.set i r) m=if m=r.name then some r else Qj l m:=by
 have b:((l.set i r).map (·.name)).Nodup:=by rw[si hi a];exact h
 by_cases e:m=r.name
 .rw[Pe e,e];exact gJ b (List.mem_iff_getElem.2 ⟨i,by simpa using hi,A9⟩)
 .rw[Pf e];cases c:Qj l m with
  | none=>rw[tu,si hi a];exact tu.1 c
  | some x=>
   obtain⟨j,d⟩:=aN c;refine (qO (qw b)).2 ⟨?_,d⟩;obtain⟨k,f,rfl⟩:=Oc j;refine List.mem_iff_getElem.2 ⟨k,by simpa using f, ?_⟩;rw[List.getElem_set_ne];rintro rfl;exact e (by rw[<-d,a];simp[List.getD,f])
theorem nS(W:bR):∀(bs:List Ps) (l:List Qz),(l.map (·.name)).Nodup->∃G,dh W l bs=l++G/\(∀g∈G,g=Qz.fresh g.name/\(W g.name).isSome=true)/\((dh W l bs).map (·.name)).Nodup
 | [],l,h=>⟨[],by unfold dh;simp,λg a=>(by cases a),by unfold dh;exact h⟩
 | b :: bs,l,h=>by
  unfold dh;by_cases c:(W b).isSome=true/\(Qj l b).isNone=true
  .have i:b∉l.map (·.name):=tu.1 (by simpa using c.2);have j:((l++ [Qz.fresh b]).map (·.name)).Nodup:=by
    rw[Pi,List.map_cons,List.map_nil];exact List.nodup_append.2 ⟨h,A9,λx d y f e=>by rw[NZ] at f;rw[e,f] at d;exact i d⟩
   obtain⟨G,k,m,n⟩:=nS W bs (l++ [Qz.fresh b]) j;rw[Pe c];refine⟨Qz.fresh b :: G,by rw[k];simp,λg a=>?_,n⟩;rcases OL.1 a with e | e
   .rw[e];exact⟨rfl,c.1⟩
   .exact m g e
  .rw[Pf c];exact nS W bs l h
variable {L : List Qz}
theorem Jl{W:bR}{F:List Qz}(h:∀r∈F,r=Qz.fresh r.name):oC W (Qj (L++F)) (Qj L):=λn=>by
 unfold aP;cases W n with
 | none=>rfl
 | some A=>
  simp only;rw[lD];cases e:Qj L n with
  | some r=>rfl
  | none=>
   simp only;cases d:Qj F n with
   | none=>rfl
   | some r=>
    have:r.over=false:=by rw[h r (aN d).1];rfl
    simp only;rw[this]
    rfl
structure lQ (Kj:List Qq) (L R nx:List Qz) (i:Nat) (b:Bool):Prop where
 len:nx.length=L.length
 pre:∃F,R=L++F/\∀r∈F,r=Qz.fresh r.name/\(Q_ Kj r.name).isSome=true
 dif:(R.map (·.name)).Nodup
 nam:nx.map (·.name)=L.map (·.name)
 nxt:∀j,j<i->j<L.length->∃k,nx.getD j Qz.zero= (aJ (Q_ Kj) (Qj L) (L.getD j Qz.zero).name k).1/\(∀m,m<k->aZ (Q_ Kj) (Qj L) (aJ (Q_ Kj) (Qj L) (L.getD j Qz.zero).name m).1)/\¬aZ (Q_ Kj) (Qj L) (nx.getD j Qz.zero)
 oth:∀j,i<=j->nx.getD j Qz.zero=L.getD j Qz.zero
 led:∃k,bB (bi (Q_ Kj)) (doX (Q_ Kj)) (Qj L) (Qj (nx++R.drop L.length)) k
 yes:b=true->∃j,j<L.length/\nx.getD j Qz.zero≠L.getD j Qz.zero
 no:b=false->∀j,j<i->j<L.length->(nx.getD j Qz.zero).Zj= (L.getD j Qz.zero).Zj/\(nx.getD j Qz.zero).over= (L.getD j Qz.zero).over
variable {Kj : List Qq}
theorem lQ.start(h:(L.map (·.name)).Nodup):lQ Kj L L L 0 false:=
 ⟨rfl,⟨[],A9,λr c=>(by cases c)⟩,h,rfl,λj b=>aT b,λ_ _=>rfl,⟨0,by rw[List.drop_length,List.append_nil];exact .here _⟩,λh=>(by cases h),λ_ j b=>aT b⟩
variable {R nx : List Qz}
theorem lQ.nd{b:Bool}(h:lQ Kj L R nx i b):((nx++R.drop L.length).map (·.name)).Nodup/\(L.map (·.name)).Nodup:=by
 obtain⟨F,d,_⟩:=h.pre;have c:=h.dif;rw[d,Pi] at c;refine⟨?_,(List.nodup_append.1 c).1⟩;rw[d,List.drop_left,Pi,h.nam];exact c
theorem lQ.ans{b:Bool}(h:lQ Kj L R nx i b):oC (Q_ Kj) (Qj R) (Qj L):=by
 obtain⟨F,c,d⟩:=h.pre;rw[c];exact Jl (λr f=>(d r f).1)
theorem lQ.next{b O:Bool}(h:lQ Kj L R nx i b)(P:ClT (Q_ Kj) (Qj L))(hi:i<L.length){n:Ps}(s:n= (L.getD i Qz.zero).name){k:Nat}(C:∀j,j<k->aZ (Q_ Kj) (Qj R) (aJ (Q_ Kj) (Qj R) n j).1)(h2:¬aZ (Q_ Kj) (Qj R) (aJ (Q_ Kj) (Qj R) n k).1)
 (t:O= (b || decide ((aJ (Q_ Kj) (Qj R) n k).1.Zj≠(L.getD i Qz.zero).Zj) || decide ((aJ (Q_ Kj) (Qj R) n k).1.over≠(L.getD i Qz.zero).over))):
  lQ Kj L (dh (Q_ Kj) R (aJ (Q_ Kj) (Qj R) n k).2) (nx.set i (aJ (Q_ Kj) (Qj R) n k).1) (i+1) O:=by
 have v:=h.nd;have Q:=h.ans;simp only[Q.again n,Q.can] at C h2 t⊢;obtain⟨F,w,hf⟩:=h.pre;obtain⟨f,l⟩:=ai ((aJ (Q_ Kj) (Qj L) n k).1);obtain⟨D,S⟩:=ai ((aJ (Q_ Kj) (Qj L) n k).2);rw[<-l] at h2 t⊢;rw[<-S];have T:f.name=n:=by rw[l];exact lT k
 obtain⟨G,E,g2,g3⟩:=nS (Q_ Kj) D R h.dif;have y:i<nx.length:=by rw[h.len];exact hi
 have H:(nx.getD i Qz.zero)=L.getD i Qz.zero:=h.oth i (NQ _);have U:f.name= (nx.getD i Qz.zero).name:=by rw[T,s,H]
 have a2:(nx.map (·.name)).Nodup:=by rw[h.nam];exact v.2
 have c:∀j,(nx.set i f).getD j Qz.zero=if j=i then f else nx.getD j Qz.zero:=λj=>by
  by_cases e:j=i
  .subst e;rw[Pe rfl];simp[List.getD,y]
  .rw[Pf e];simp[List.getD,Oj (Ne.symm e)]
 refine⟨by rw[OZ];exact h.len,⟨F++G,by rw[E,w,List.append_assoc],λV hr=>?_⟩,g3,by rw[si y U];exact h.nam,λj d I=>?_,λj d=>?_, ?_,λJ=>?_,λp j d I=>?_⟩
 .rcases N_.1 hr with e|e
  .exact hf V e
  .exact g2 V e
 .rw[c];by_cases e:j=i
  .subst e;rw[Pe rfl,<-s];exact⟨k,l,C,h2⟩
  .rw[Pf e];exact h.nxt j A7 I
 .rw[c,Pf A7];exact h.oth j A7
 .obtain⟨k1,z⟩:=h.led;have X:=P.led z;obtain⟨q,K⟩:=H_ (n:=n) (k:=k) z C;have a3:R.drop L.length=F:=by rw[w,List.drop_left]
  have a4:(dh (Q_ Kj) R D).drop L.length=F++G:=by rw[E,w,List.append_assoc,List.drop_left]
  rw[a3] at z X q K v;rw[a4];obtain⟨τ,hτ⟩:=ai (Qj (nx++F));have a5:L.getD i Qz.zero∈nx++F:=N_.2 (.inl (by rw[<-H];exact kH y));have Y:Qj (nx++F) n=some (L.getD i Qz.zero):=by rw[s];exact gJ v.1 a5
  -- where the run stands
  have a6:Qj L n=some (L.getD i Qz.zero):=by rw[s];exact gJ v.2 (kH hi)
  obtain⟨M,L0,a,A,Z⟩:=P.Lc n _ a6;rw[M] at A Z;have N:a<=k:=by
   rcases Nat.lt_or_ge k a with g|g
   .exact Pg (by rw[l];exact Z k g) h2
   .exact g
  have a7:=X.cl n _ L0 Y (by
   refine⟨a, ?_,λj d=>?_⟩
   .rw[M,q a N];exact A
   .rw[M];exact K j A7)
  have a0:=Ak (W:=Q_ Kj) (n:=n) (k-a) (σ:=Qj (nx++F)) (k0:=a) (by rw[q a N,A];exact Y) (λj d=>K j A7) (λa8 B r=>a7 a8 (by rw[q a N,A] at B;exact B) r);rw[show a+ (k-a)=k by omega] at a0;have a9:Qj (nx.set i f++ (F++G))=DC (Q_ Kj) (Qj (nx++F)) n k:=by
   funext m
   unfold DC;rw[q k (NQ _),<-l,<-S,lD,Ji a2 y U,T];by_cases e:m=n
   .rw[Pe e,Pe e]
   .rw[Pf e,Pf e,lD nx F];cases hx:Qj nx m with
    | some x=>rfl
    | none=>
     simp only;rw[lD F G];cases B:Qj F m with
     | some x=>rfl
     | none=>
      simp only;have b0:Qj L m=none:=by rw[tu,<-h.nam];exact tu.1 hx
      have r:=nA (Q_ Kj) D R m;rw[E,lD,w,lD,b0] at r;simp only[B] at r;exact r
  rw[a9];exact⟨_,z.trans a0⟩
 .rw[t] at J;simp only[Bool.or_eq_true,Pk] at J;rcases J with (g|g) | g
  .obtain⟨j,d,a1⟩:=h.yes g;have:j≠i:=λe=>a1 (by rw[e];exact H)
   exact⟨j,d,by rw[c,Pf this];exact a1⟩
  .exact⟨i,hi,by rw[c,Pe rfl];exact λe=>g (by rw[e])⟩
  .exact⟨i,hi,by rw[c,Pe rfl];exact λe=>g (by rw[e])⟩
 .rw[t] at p;simp only[Bool.or_eq_false_iff,decide_eq_false_iff_not,Decidable.not_not] at p;rw[c];by_cases e:j=i
  .rw[Pe e,e];exact⟨p.1.2,p.2⟩
  .rw[Pf e];exact h.no p.1.1 j A7 I
theorem lQ.still(h:lQ Kj L R nx L.length false)(e:ClT (Q_ Kj) (Qj L))(D:R.length=L.length):nx++R.drop L.length=L/\AtEnd (bi (Q_ Kj)) (Qj L):=by
 have f:∀j,j<L.length->nx.getD j Qz.zero=L.getD j Qz.zero/\¬aZ (Q_ Kj) (Qj L) (L.getD j Qz.zero):=λj a=>by
  obtain⟨k,b,i,l⟩:=h.nxt j a a;obtain⟨v,w⟩:=h.no rfl j a a;have m:=gJ h.nd.2 (kH a);obtain⟨_,E,c,n,p⟩:=e.Lc _ _ m;have q:=e.web _ _ m;have F:c<=k:=by
   rcases Nat.lt_or_ge k c with g|g
   .exact Pg (by rw[b];exact p k g) l
   .exact g
  rcases Nat.lt_or_ge c k with g|g
  .exfalso
   have d:=(i c g).1;have r:=fO q p d;rw[n] at d r;have x:(aJ (Q_ Kj) (Qj L) (L.getD j Qz.zero).name k).1.over=false:=by rw[<-b,w];exact d
   have y:=fO q i x;rw[<-b,v] at y;simp only at r;omega
  .obtain rfl:c=k:=A7;rw[n] at b;have s:nx.getD j Qz.zero=L.getD j Qz.zero:=b;exact⟨s,by rw[<-s];exact l⟩
 have z:nx=L:=by
  apply List.ext_getElem h.len;intro j A t;have:=(f j t).1;simpa[List.getD,A,t] using this
 refine⟨?_,λG ⟨H,B,C⟩=>?_⟩
 .rw[z,List.drop_of_length_le A7,List.append_nil]
 .obtain⟨j,a,rfl⟩:=Oc (aN B).1;exact (f j a).2 (by simpa[List.getD,a] using C)
theorem lQ.moved{b:Bool}(h:lQ Kj L R nx i b)(q:WfX (Q_ Kj) (Qj L))(c:b=true\/L.length<R.length):cZ (Kj.map (·.name)) (Qj (nx++R.drop L.length))<cZ (Kj.map (·.name)) (Qj L):=by
 obtain⟨r,f⟩:=h.led;have y:=LB (Kj.map (·.name)) f q (λz s=>jA s);rcases Nat.eq_zero_or_pos r with k | k
 .exfalso
  subst k;have l:Qj (nx++R.drop L.length)=Qj L:=f.zero rfl;rcases c with g|g
  .obtain⟨j,d,t⟩:=h.yes g;have m:j<nx.length:=by rw[h.len];exact d
   have a:=gJ h.nd.1 (N_.2 (.inl (kH m)));have v:=gJ h.nd.2 (kH d);have w:(nx.getD j Qz.zero).name= (L.getD j Qz.zero).name:=by
    have:=congrArg (λx=>x[j]?) h.nam;simpa[List.getD,m,d] using this
   rw[l,w,v] at a;exact t (by simpa using a.symm)
  .obtain⟨F,e,_⟩:=h.pre;have n:0<F.length:=by rw[e,OD] at g;omega
   have c:F[0]∈nx++R.drop L.length:=by rw[e,List.drop_left];exact N_.2 (.inr (Oa n))
   have a:=gJ h.nd.1 c;rw[l] at a;have p:=h.dif;rw[e,Pi] at p;exact (List.nodup_append.1 p).2.2 _ (Oq.2 ⟨_,(aN a).1,(aN a).2⟩) _ (Oq.2 ⟨F[0],Oa n,rfl⟩) rfl
 .omega
structure ny (Kj:List Qq) (Kk:List Ps) (L:List Qz) (ag:Bool) (gg:Nat):Prop where
 nd:(L.map (·.name)).Nodup
 good:dw Kj (Qj L)
 led:∃k,bB (bi (Q_ Kj)) (doX (Q_ Kj)) (Qj (eT Kj Kk)) (Qj L) k
 fin:ag=false->AtEnd (bi (Q_ Kj)) (Qj L)
 gg:gg=if ag=true then cZ (Kj.map (·.name)) (Qj L)+1 else 0
section
variable {Kj : List Qq} {Kk : List Ps} {L R nx : List Qz} {ag b : Bool} {gg : Nat}
theorem ny.cl(h:ny Kj Kk L ag gg):ClT (Q_ Kj) (Qj L):=by
 obtain⟨k,b⟩:=h.led;exact (ClT.start Kk).led b
theorem ny.wf(h:ny Kj Kk L ag gg):WfX (Q_ Kj) (Qj L):=λn r d=>by
 obtain⟨f,e⟩:=h.good n r d;refine⟨f,h.cl.web n r d,e.lo,e.hi⟩
theorem ny.all(h:ny Kj Kk L ag gg):∀r∈L,r.Good Kj:=λr b=>(h.good r.name r (gJ h.nd b)).2
theorem ny.len(h:ny Kj Kk L ag gg):L.length<=Kj.length:=by
 have c:∀n∈L.map (·.name),n∈Kj.map (·.name):=λn d=>by
  obtain⟨r,e,rfl⟩:=Oq.1 d;exact jA (h.cl.web _ _ (gJ h.nd e))
 have:=List.Nodup.length_le_of_subset h.nd c;simpa using this
theorem JN{Kj:List Qq}(f:aX (Q_ Kj)){σ τ :Env}{k:Nat}(h:bB (bi (Q_ Kj)) (doX (Q_ Kj)) σ τ k)(i:dw Kj σ):dw Kj τ :=
 h.keeps (P:=dw Kj) (λs n g b=>by
  obtain⟨r,b,j⟩:=b;intro m q a;rw[ed b] at a;by_cases e:m=n
  .rw[Pe e] at a;cases a;exact⟨by rw[bP,(g n r b).1,e],dm f g (g n r b).2 j⟩
  .rw[Pf e] at a;cases d:s m with
   | some x=>rw[d] at a;cases a;exact g m _ d
   | none=>
    rw[d] at a;simp only at a
    split at a
    .next c=>cases a;exact⟨rfl,gD f c.2⟩
    .cases a) i
theorem Aj(Kj:List Qq)(Kk:List Ps):Qj (dh (Q_ Kj) [] Kk)=Qj (eT Kj Kk):=by
 funext n
 rw[fQ,nA]
 rfl
theorem ny.start{Kj:List Qq}(a:aX (Q_ Kj))(Kk:List Ps):ny Kj Kk (dh (Q_ Kj) [] Kk) true (cZ (Kj.map (·.name)) (Qj (dh (Q_ Kj) [] Kk))+1):=by
 obtain⟨G,_,_,b⟩:=nS (Q_ Kj) Kk [] List.nodup_nil;refine⟨b, ?_,⟨0, ?_⟩,λh=>(by cases h),by rw[Pe rfl]⟩
 .rw[Aj];exact (fH a Kk).env
 .rw[Aj];exact .here _
theorem ny.next(l:aX (Q_ Kj))(h:ny Kj Kk L true gg)(a:lQ Kj L R nx L.length b){c:Bool}(e:c= (b || decide (L.length<R.length))):ny Kj Kk (nx++R.drop L.length) c (if c=true then cZ (Kj.map (·.name)) (Qj (nx++R.drop L.length))+1 else 0)/\(if c=true then cZ (Kj.map (·.name)) (Qj (nx++R.drop L.length))+1 else 0)<gg:=by
 obtain⟨v,m⟩:=h.led;obtain⟨w,i⟩:=a.led;have n:=a.pre;refine⟨⟨a.nd.1,JN l i h.good,⟨_,m.trans i⟩,λp=>?_,rfl⟩, ?_⟩
 .rw[p] at e;have d:=e.symm;simp only[Bool.or_eq_false_iff,decide_eq_false_iff_not] at d;obtain⟨F,q,_⟩:=n;have r:R.length=L.length:=by
   have:L.length<=R.length:=by rw[q,OD];omega
   omega
  have j:=a;rw[d.1] at j;obtain⟨s,t⟩:=j.still h.cl r;rw[s];exact t
 .have k:=h.gg;rw[Pe rfl] at k;rw[k];by_cases f:c=true
  .rw[Pe f];rw[f] at e;have:=a.moved h.wf (by
    have d:=e.symm;simp only[Bool.or_eq_true,Pk] at d;exact d)
   omega
  .rw[Pf f];omega
end
theorem EF{l':List Qz}(h:l.Perm l'):dX l=dX l':=by
 unfold dX
 induction h with
 | nil=>rfl
 | cons x _ ih=>simp only[List.map_cons,List.sum_cons,ih]
 | swap x y l=>simp only[List.map_cons,List.sum_cons];omega
 | trans _ _ i1 i2=>rw[i1,i2]
theorem Iz(W:bR){l':List Qz}(h:l.Perm l'):gy W l=gy W l':=by
 unfold gy
 induction h with
 | nil=>rfl
 | cons x _ ih=>simp only[List.map_cons,List.sum_cons,ih]
 | swap x y l=>simp only[List.map_cons,List.sum_cons];omega
 | trans _ _ i1 i2=>rw[i1,i2]
theorem ny.sorted{Kk:List Ps}{gg:Nat}(h:ny Kj Kk L false gg):Dv Kj Kk (L.foldl dF [])/\Qj (L.foldl dF [])=Qj L/\dX (L.foldl dF [])=dX L/\gy (Q_ Kj) (L.foldl dF [])=gy (Q_ Kj) L:=by
 obtain⟨f,m⟩:=kG L [] List.Pairwise.nil (qw h.nd);have c:Qj (L.foldl dF [])=Qj L:=by
  funext n
  rw[m];cases Qj L n <;> rfl
 have k:∀r,r∈L.foldl dF []↔r∈L:=λr=>by
  constructor
  .intro d;have e:=bE f d;rw[c] at e;exact (aN e).1
  .intro d;have e:=gJ h.nd d;rw[<-c] at e;exact (aN e).1
 have p:L.Nodup:=List.Pairwise.of_map (·.name) (λa b i j=>i (by rw[j])) h.nd;have q:(L.foldl dF []).Nodup:=List.Pairwise.imp (R:=λx y:Qz=>aR x.name y.name) (S:=λx y=>x≠y) (λ{a b} i (j:a=b)=>dU i (congrArg Qz.name j)) f;have l:(L.foldl dF []).Perm L:=(List.perm_ext_iff_of_nodup q p).2 k;refine⟨⟨⟨f,λr d=>h.all r ((k r).1 d)⟩, ?_, ?_⟩,c,EF l,Iz _ l⟩
 .rw[c];exact h.led
 .rw[c];exact h.fin rfl
theorem Ca(w:Pv)(a q f j:Pt)(cap I e0 r:Nat)(o:pW)(Y:o.res.length<=1048576)(Q:o.chain.length<=1048576)(R:oO w a o.res)(S:oO w q o.res)(T:Strs w f o.chain)(U:Strs w j o.chain):
  Calls prog 16 #[.agg #[.a o.code,.slice a o.res.length cap,.slice f o.chain.length e0,.a o.dS,.a o.cost],.agg #[.a o.code,.slice q o.res.length I,.slice j o.chain.length r,.a o.dS,.a o.cost]] w λe w'=>e= .returned (.bool true)/\K_ w w':=by
 obtain⟨l,c,d,m,cost⟩:=o;dsimp only at *;obtain⟨n,s⟩:=ai ((w.alloc (.cells #[.a l,.slice a c.length cap,.slice f d.length e0,.a m,.a cost] 43)).alloc (.cells #[.a l,.slice q c.length I,.slice j d.length r,.a m,.a cost] 43));have p:K_ w n:=by rw[s];exact (ah _ _).alloc _
 have J:Hid (∀u,K_ n u->(J4 u w.heap.size 0 (.a l)/\J4 u w.heap.size 1 (.slice a c.length cap)/\J4 u w.heap.size 2 (.slice f d.length e0)/\J4 u w.heap.size 3 (.a m)/\J4 u w.heap.size 4 (.a cost))/\(J4 u (w.heap.size+1) 0 (.a l)/\J4 u (w.heap.size+1) 1 (.slice q c.length I)/\J4 u (w.heap.size+1) 2 (.slice j d.length r)/\J4 u (w.heap.size+1) 3 (.a m)/\J4 u (w.heap.size+1) 4 (.a cost))/\w.heap.size<u.heap.size/\w.heap.size+1<u.heap.size):=λu k=>by
  have N:=k.size;rw[s] at k N;simp only[OC] at N;refine⟨ut (w:=w) (t:=43) (K_.trans (ah _ _) k), ?_,A7,A7⟩;have O:=ut (w:=w.alloc (.cells #[.a l,.slice a c.length cap,.slice f d.length e0,.a m,.a cost] 43)) (t:=43) k;rw[OC] at O;exact O
 go_enter func16,ntmps16
 go_upto_region 1 with fail
 rw[<-s];clear s;obtain⟨⟨v,x,y,z,A⟩,⟨B,C,D,E,F⟩,G,H⟩:=J.o _ (K_.refl n);go_wp2_with fail
 refine (Fp n f j e0 r d Q (T.kept p) (U.kept p)).mono ?_;rintro e Z ⟨rfl,L⟩;clear v x y z A B C D E F G H;obtain⟨⟨v,x,y,z,A⟩,⟨B,C,D,E,F⟩,G,H⟩:=J.o _ L;go_wp2
 clear v x y z A B C D E F G H;go_loopw [5] (λM wr=>∃k:Nat,k<=c.length/\M= .a (k:Int)/\K_ n wr) (λM _=>c.length-(intOf M).toNat)
 case atStart=>exact⟨0,NS _,rfl,L⟩
 case round=>
  clear L;obtain⟨k,a0,rfl,K⟩:=hrel;obtain⟨⟨v,x,y,z,A⟩,⟨B,C,D,E,F⟩,G,H⟩:=J.o _ K;by_cases P:k<c.length
  .have V:(k:Int)<(c.length:Int):=A7;obtain⟨b,o,rfl,hb,h⟩:=(R.kept (p.trans K)) k P;obtain⟨b',o',rfl,a1,i⟩:=(S.kept (p.trans K)) k P;generalize c.getD k fF.zero=a2 at h i;have W:=h 0 _ rfl;have c1:=h 1 _ rfl;have c2:=h 2 _ rfl;have c3:=h 3 _ rfl;have X:=i 0 _ rfl;have d1:=i 1 _ rfl;have d2:=i 2 _ rfl;have d3:=i 3 _ rfl;rw[OJ] at W X;clear h i;go_wp2
   go_region
   all_goals
    go_wp2
    go_roundw
    case rel=>exact⟨k+1,A7,C8,I9⟩
    case measure=>simp[intOf];omega
  .have V:¬(k:Int)<(c.length:Int):=A7;go_wp2
   go_ret
   exact⟨rfl,p.trans K⟩
