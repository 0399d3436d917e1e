import Derived.Test.YtppbfddlkfglgaaGreatDoorKDSpoil
import Derived.Test.YtppbfddlkfglgaaGreatDoorKFImpl2
import Derived.Test.YtppbfddlkfglgaaGreatDoorKXWantZ
set_option maxRecDepth 100000
set_option maxHeartbeats 25600000
namespace Go.Proofs.YtppbfddlkfglgaaGreatDoor
open Go.RowKit Go.Proofs.Tryz
def AO(v:QY)(n:Nat):Prop:=∃g c,v=.c g n c
theorem sZ{w:QX}{base size:Nat}{e:TypeId}{v:QY}{n:Nat}{a:List QY}(h:w.ownsRow base e size v n a)(d:0<n):AO v n:=by
 rcases h.2 with⟨_,e⟩|⟨g,c,f,e,_⟩
 .omega
 .exact⟨g,c,e⟩
def AZ(w w':QX)(rb:Nat)(a:QW)(cap:Nat)(bs:List UInt8)(p:Nat)(e:Ending):Prop:=
 ∃(g c:Nat)(l:List QV)(p':Nat),e=.returned (.c g l.length c)/\l.length<=c/\l.length<=12/\(∀x∈l,x.size<=300)/\eY w' 9 (some ⟨g,0,none⟩) l/\p<=p'/\p'<=p+20/\Rd w' rb a cap bs p'/\Xj rb (rb+1) w w'
section
variable {W wr:QX}{rb:Nat}{a:QW}{cap:Nat}{bs:List UInt8}{p q:Nat}{v:QY}{l:List QV}
theorem OSt.Kj(h:OSt W wr rb a cap bs q v l)(d:AO v l.length)(f:l.length<=12)(i:p<=q)(h2:q<=p+20):AZ W wr rb a cap bs p (.returned v):=by
 obtain⟨n,c,e,j,k⟩:=dD h.own;obtain⟨g,m,b⟩:=d;rw[b] at e;simp only[Qm] at e;obtain⟨rfl,_,rfl⟩:=e;exact⟨g,m,l,q,by rw[b],j,f,h.sz,k,i,h2,h.rd,h.kb⟩
theorem OSt.front{w2:QX}{d:QY}{x:QV}(h:OSt W wr rb a cap bs q v l)(k:K_ wr w2)(e:w2.ownsRow W.heap.size 9 1 d (1+l.length) ([.string x]++l.map Value.string))(f:x.size<=300):OSt W w2 rb a cap bs q d (x :: l):=by
 refine⟨h.rd.kept k,h.rd0,h.kb.gJ k,by rw[Qn,Nat.add_comm];exact e,λy c=>?_⟩;rcases Qr.1 c with rfl|c
 .exact f
 .exact h.sz y c
theorem OSt.strs(h:OSt W wr rb a cap bs q v l):∃sa c,v=.slice sa l.length c/\l.length<=c/\eY wr 9 sa l:=dD h.own
theorem EY{l:List QV}{i:Nat}(f:i<=26)(h:∀j,j<i->lN j∈l):i<=l.length:=by
 have b:((List.range i).map lN).Nodup:=by
  rw[List.Nodup,List.pairwise_map];refine List.Pairwise.imp_of_mem ?_ List.pairwise_lt_range;intro x y a c k d;have m:=List.mem_range.1 a;have n:=List.mem_range.1 c;have:=GA A7 A7 d;omega
 have:=List.Nodup.length_le_of_subset b (l₂:=l) (λx a=>by
  obtain⟨j,e,rfl⟩:=PX.1 a;exact h j (List.mem_range.1 e))
 simpa using this
end
theorem IL(w:QX)(rb:Nat)(a:QW)(cap:Nat)(bs:List UInt8)(p:Nat)(na:QW)(nc:Nat)(L:List Qz)(hR:Rd w rb a cap bs p)(hp:p<=900000)(S:bs.length<=2000)(hN:bM w (.slice na L.length nc) L)(hL:L.length<=100000)(A:∀d∈L,d.name.size<=300):
  Calls prog 26 #[.h rb,.agg #[.slice na L.length nc]] w λe w'=>AZ w w' rb a cap bs p e:=by
 obtain⟨B,X⟩:=aj (w.alloc (.cells #[.slice na L.length nc] 25));have kB:K_ w B:=by rw[X];exact ai _ _
 have b4:B.cell? ⟨w.heap.size,0,none⟩=some (.slice na L.length nc):=by rw[X];exact X_ w _ _ 0 _ rfl
 have a7:w.heap.size<B.heap.size:=by rw[X];simp
 have f:=Kz (OSt.made hR (hR.kept kB) (.ak kB));have h:K_ B (B.alloc (.cells #[] 9)):=ai _ _;have b5:(B.alloc (.cells #[] 9)).cell? ⟨w.heap.size,0,none⟩=some (.slice na L.length nc):=(h.cell a7).trans b4;have a8:=Kz (hN.nodes.kept (kB.trans h));go_enter func26,ntmps26
 have b6:w.heap.size<(B.alloc (.cells #[] 9)).heap.size:=Px a7 h.size;rw[X] at b5 f a8 b6;rw[Qh] at f;clear h kB b4 a7 hN X B;go_upto_if 13 with fail
 have b7:AO (.c (w.heap.size+1) 0 0) 0:=⟨_,_,rfl⟩;go_cut [5] from 13 to 25 λs5 wx=>∃l:List QV,OSt w wx rb a cap bs p s5 l/\AO s5 l.length/\l.length<=1
 case first=>
  by_cases e9:0<L.length
  .have hk:L.length-1<L.length:=A7;obtain⟨nb,no,cs,e1,f0,a9,b8⟩:=a8.out (L.length-1) hk;obtain⟨x,H⟩:=aj ((L.getD (L.length-1) Qz.zero).name);have d2:x.size<=300:=by
    rw[H];simp only[List.getD,PE hk,QL];exact A _ (PL hk)
   obtain⟨b0,hm⟩:=aj (L.length-1);rw[<-hm] at a9 H b8;obtain⟨sa,sc,e2,_⟩:=b8;have f1:((w.alloc (.cells #[.slice na L.length nc] 25)).alloc (.cells #[] 9)).cell? ⟨nb,no+b0*3,none⟩=some (.string x):=by
    have:=a9 0 (.string x) (by rw[e2,H];rfl);simpa using this
   have e5:(L.length:Int)-1= (b0:Int):=A7;have f2:(b0:Int)<(L.length:Int):=A7;subst e1;have K1:K_ ((w.alloc (.cells #[.slice (some ⟨nb,no,none⟩) L.length nc] 25)).alloc (.cells #[] 9)) (((w.alloc (.cells #[.slice (some ⟨nb,no,none⟩) L.length nc] 25)).alloc (.cells #[] 9)).alloc (.cells #[.string x] 9)):=ai _ _;have C:=Kz K1;have D:=Kz (f.o.kept K1).own;have I:=(f.o.kept K1).kb.size;obtain⟨J,K,M,N,O⟩:=aV Tryz.gV;clear H hm a9 e2 hk K1;go_wp2_with (at_builtin;refine wpList_append_own _ rfl (.tmp 14) (.tmp 24) 26 rfl w.heap.size 9 J _ 1 16 underlying26 K M N O rfl A8 (.c (w.heap.size+1) 0 0) 0 [] rfl D.o ⟨w.heap.size+2,0,none⟩ 1 1 [.string x] rfl rfl (by simpa using lS ((w.alloc (.cells #[.slice (some ⟨nb,no,none⟩) L.length nc] 25)).alloc (.cells #[] 9)) x) (lF x) D6 A7 I ?_;intro v' w2 k t _;have P:=Kz (f.o.push C.o k t d2);have Q:=sZ k A7;clear k t)
   go_meet
   exact⟨[x],P.o,Q,Pw _⟩
  .go_wp2
   go_meet
   exact⟨[],f.o,b7,Py _⟩
 case rest=>
  obtain⟨l0,E,F,hl⟩:=hcut;have⟨b1,b9⟩:=aJ E F;clear E F f b7 a8 b5 b6;go_wp2_with fail
  refine (aM _ rb a cap bs p _ 4 rfl b1.o.rd A7 A7 S).mono ?_;rintro e w2 ⟨a3,rfl,hn,c0,c1⟩;have c2:=Kz (b1.o.drawn c0 c1);clear c0 c1 b1;go_wp2
  go_loopg [5,6] a3 λg Y x6 wr=>∃(p':Nat)(l:List QV),x6=.b (g:Int)/\g<=a3/\p<=p'/\p'+2*g<=p+1+2*a3/\l.length+g<=1+a3/\OSt w wr rb a cap bs p' Y l/\AO Y l.length
  case atStart=>exact⟨p+1,l0,rfl,Pw _,A7,A7,A7,c2.o,b9.o⟩
  case round=>
   clear c2 b9 hl;obtain⟨z,l,rfl,hg,f3,d3,d4,E,F⟩:=hrel;have⟨f,T⟩:=aJ E F;obtain⟨Z,oc,rfl⟩:=F;clear E;by_cases f4:(0:Int)<(gk:Int)
   .go_wp2_with fail
    refine (aM _ rb a cap bs z _ 12 rfl f.o.rd A7 A7 S).mono ?_;rintro e w3 ⟨v,rfl,d5,a0,a1⟩;have y:=Kz (f.o.drawn a0 a1);clear a0 a1 f;go_wp2_with fail
    refine (jZ _ v _ rfl A7).mono ?_;rintro e w4 ⟨x0,rfl,f5,k4⟩;have r:=Kz (y.o.kept k4);clear k4 y;go_wp2_with fail
    refine (aM _ rb a cap bs (z+1) _ 10 rfl r.o.rd A7 A7 S).mono ?_;rintro e w5 ⟨q5,rfl,f6,c3,c4⟩;have G:=Kz (r.o.drawn c3 c4);clear c3 c4 r;go_upto_if 37 with fail
    go_cut [7] from 37 to 38 λs7 wx=>∃x:QV,s7=.string x/\x.size<=300/\wx=w5
    case first=>
     by_cases h5:q5=0
     .have e5:((q5:Int) == 0)=true:=by simp[h5]
      clear h5;go_wp2
      go_meet
      exact⟨_,rfl,A8,rfl⟩
     .have e5:((q5:Int) == 0)=false:=by simpa using h5
      clear h5;go_wp2
      go_meet
      exact⟨_,rfl,A7,rfl⟩
    case rest=>
     obtain⟨x,rfl,H,rfl⟩:=hcut;have a4:Hid (Strs wc (some ⟨Z,0,none⟩) l):=by
      obtain⟨sa,c,e,_,A⟩:=G.o.strs;simp only[Qm] at e;obtain⟨rfl,_,_⟩:=e;exact A.strs
     go_wp2_with fail
     refine (uI _ (some ⟨Z,0,none⟩) oc l x A7 a4.o).mono ?_;rintro e s ⟨b2,rfl⟩;rcases b2.cases with⟨rfl,_⟩|⟨rfl,_⟩
     .go_wp2
      go_roundg (gk-1)
      case measure=>omega
      case rel=>exact⟨z+2,l,C8,A7,A7,A7,A7,G.o,T.o⟩
     .obtain⟨J,K,M,N,O⟩:=aV Tryz.gV;have h:K_ s (s.alloc (.cells #[.string x] 9)):=ai _ _;have C:=Kz h;have D:Hid ((s.alloc (.cells #[.string x] 9)).ownsRow s.heap.size 9 1 (.c s.heap.size 1 1) 1 ([x].map Value.string)):=World.ownsRow_lit s #[.string x] 1 (Pw _) A8 rfl;have d6:Hid (∀j u,(l.map Value.string)[j]? =some u->(s.alloc (.cells #[.string x] 9)).cell? ((⟨Z,0,none⟩:Addr).add j)=some u):=λj u hu=>by
       have U:j<l.length:=by have:=(PG.1 hu).1;simpa using this
       obtain⟨b,o,e,hb,R⟩:=(a4.o.kept C.o) j U;simp only[Ql] at e;rw[e,Qo,R];simp[U] at hu;simp[List.getD,U,hu]
      have d7:Hid (∀u∈l.map Value.string,u.oneCell'=true):=λu hu=>by obtain⟨c5,_,rfl⟩:=PX.1 hu;rfl
      have I:s.heap.size<=(s.alloc (.cells #[.string x] 9)).heap.size:=h.size;have d8:=Kz G.o.kb.size;clear h;go_wp2_with (at_builtin;refine wpList_append_own _ rfl (.tmp 43) (.tmp 44) 26 rfl s.heap.size 9 J _ 1 16 underlying26 K M N O rfl A8 (.c s.heap.size 1 1) 1 ([x].map Value.string) rfl D.o ⟨Z,0,none⟩ l.length oc (l.map Value.string) rfl A9 d6.o d7.o D6 A7 I ?_;intro v' n k t _;have P:=Kz (G.o.front (aL C.o (Pw _) D.o t) (gX k d8.o) H);have Q:=sZ k A7;clear k t)
      go_roundg (gk-1)
      case measure=>omega
      case rel=>exact⟨z+2,x :: l,C8,A7,A7,A7,by rw[Qn];omega,P.o,by rw[Qn,Nat.add_comm];exact Q⟩
   .have d9:l.length<=5:=A7;have f7:z<=p+7:=A7;clear d4 d3;go_wp2_with fail
    refine (aM _ rb a cap bs z _ 50 rfl f.o.rd A7 A7 S).mono ?_;rintro e w3 ⟨v,rfl,d5,a0,a1⟩;have y:=Kz (f.o.drawn a0 a1);clear a0 a1 f;by_cases h0:v=0
    .have e0:((v:Int) == 0)=true:=by simp[h0]
     obtain⟨p0,c6⟩:=y.o.rd0;have HE:=Kz (OSt.made c6 y.o.rd y.o.kb);clear c6;clear h0;go_wp2
     go_ret
     exact OSt.Kj HE.o ⟨_,_,rfl⟩ A9 A7 A7
    have e0:((v:Int) == 0)=false:=by simpa using h0
    clear h0;by_cases h1:v=1
    .have e1:((v:Int) == 1)=true:=by simp[h1]
     clear h1;have K3:K_ w3 (w3.alloc (.cells #[.string ⟨#[]⟩,.string ⟨#[45]⟩,.string ⟨#[103,111,110,101]⟩] 9)):=ai _ _;have r:=Kz (y.o.kept K3);clear K3;go_wp2_with fail
     refine (aM _ rb a cap bs (z+1) _ 3 rfl r.o.rd A7 A7 S).mono ?_;rintro e n ⟨q,rfl,hq,c7,a5⟩;have G:=Kz (r.o.drawn c7 a5);obtain⟨c,R,e3⟩:=CF [⟨#[]⟩,⟨#[45]⟩,⟨#[103,111,110,101]⟩] a5 y.o.rd.row.lt q (by show q<3;omega) (by
      intro c R;simp only[Qr,Qs,or_false] at R;rcases R with rfl|rfl|rfl<;>decide)
     have lz:w3.heap.size<n.heap.size:=Px A9 a5.size;have f8:(q:Int)<3:=A7;have h:K_ n (n.alloc (.cells #[.string c] 9)):=ai _ _;have C:=Kz h;have D:=Kz (G.o.kept h).own;have I:w.heap.size<=(n.alloc (.cells #[.string c] 9)).heap.size:=(G.o.kept h).kb.size;obtain⟨J,K,M,N,O⟩:=aV Tryz.gV;clear c7 a5 r h;go_wp2_with (at_builtin;refine wpList_append_own _ rfl (.tmp 53) (.tmp 59) 26 rfl w.heap.size 9 J _ 1 16 underlying26 K M N O rfl A8 (.c Z l.length oc) l.length (l.map Value.string) rfl D.o ⟨n.heap.size,0,none⟩ 1 1 [.string c] rfl rfl (lS n c) (lF c) D6 A7 I ?_;intro v' w8 k t _;have P:=Kz (G.o.push C.o k t e3);have Q:=sZ k A7;clear k t)
     go_ret
     exact OSt.Kj P.o (by rw[Qi];exact Q) (by rw[Qi];simp;omega) A7 A7
    have e1:((v:Int) == 1)=false:=D7;clear h1;by_cases h2:v=2
    .have e2:((v:Int) == 2)=true:=by simp[h2]
     clear h2;go_wp2
     go_loopg [5,8] 11 λg Y x8 wr=>∃(i:Nat)(l:List QV),x8=.b (i:Int)/\i+g=11/\l.length<=11/\Hid (∀j,j<i->lN j∈l)/\OSt w wr rb a cap bs (z+1) Y l/\AO Y l.length
     case atStart=>exact⟨0,l,rfl,rfl,A7,Kz λj U=>A7,y.o,T.o⟩
     case round=>
      clear y T d9;obtain⟨i,m,rfl,hi,e4,HJ,E,F⟩:=hrel;have⟨f,T⟩:=aJ E F;obtain⟨pb,pc,rfl⟩:=F;have f9:i<=m.length:=EY A7 HJ.o;clear E;by_cases c8:(m.length:Int)<11
      .go_wp2_with fail
       refine (xJ _ i A7).mono ?_;rintro e w4 ⟨x,rfl,H,a2,k4⟩;have r:=Kz (f.o.kept k4);have HX:=Kz (a2 A7);clear k4 a2;have a4:Hid (Strs w4 (some ⟨pb,0,none⟩) m):=by
        obtain⟨sa,c,e,_,A⟩:=r.o.strs;simp only[Qm] at e;obtain⟨rfl,_,_⟩:=e;exact A.strs
       go_wp2_with fail
       refine (uI _ (some ⟨pb,0,none⟩) pc m x A7 a4.o).mono ?_;rintro e s ⟨b2,rfl⟩;rcases b2.cases with⟨rfl,V⟩|⟨rfl,V⟩
       .have e6:Hid (∀j,j<i+1->lN j∈m):=λj U=>by
         by_cases e:j=i
         .rw[e,<-HX.o];exact V
         .exact HJ.o j A7
        clear V;go_wp2
        go_roundg (gk-1)
        case measure=>omega
        case rel=>exact⟨i+1,m,C8,A7,e4,e6,r.o,T.o⟩
       .clear V;go_wp2_with fail
        refine (xJ _ i A7).mono ?_;rintro e n ⟨W,rfl,g0,a2,k7⟩;have e7:=Kz (a2 A7);have b3:=Kz (r.o.kept k7);have h:K_ n (n.alloc (.cells #[.string W] 9)):=ai _ _;have C:=Kz h;have D:=Kz (b3.o.kept h).own;have I:w.heap.size<=(n.alloc (.cells #[.string W] 9)).heap.size:=(b3.o.kept h).kb.size;obtain⟨J,K,M,N,O⟩:=aV Tryz.gV;clear k7 h a2 r;go_wp2_with (at_builtin;refine wpList_append_own _ rfl (.tmp 73) (.tmp 76) 26 rfl w.heap.size 9 J _ 1 16 underlying26 K M N O rfl A8 (.c pb m.length pc) m.length (m.map Value.string) rfl D.o ⟨n.heap.size,0,none⟩ 1 1 [.string W] rfl rfl (lS n W) (lF W) D6 A7 I ?_;intro v' w8 k t _;have P:=Kz (b3.o.push C.o k t A7);have Q:=sZ k A7;clear k t)
        go_roundg (gk-1)
        case measure=>omega
        case rel=>exact⟨i+1,m++[W],C8,A7,by rw[Qi];simp;omega,Kz (λj U=>by
         by_cases e:j=i
         .rw[e,<-e7.o];simp
         .exact List.mem_append_left _ (HJ.o j A7)),P.o,by rw[Qi];exact Q⟩
      .have c9:m.length=11:=A7;have HL:=Kz c9;have g1:11<=pc:=by
        obtain⟨sa,c,e,R,A⟩:=f.o.strs;simp only[Qm] at e;obtain⟨_,_,rfl⟩:=e;omega
       have g2:¬(m.length:Int)<11:=c8;clear c9 c8;go_wp2_with fail
       refine (aM _ rb a cap bs (z+1) _ 2 rfl f.o.rd A7 A7 S).mono ?_;rintro e w8 ⟨q8,rfl,g3,d0,d1⟩;have a6:=Kz (f.o.drawn d0 d1);have g4:(10:Int)+(q8:Int)<=(pc:Int):=A7;clear d0 d1 f;go_wp2
       go_ret
       obtain⟨sa,c,e,R,A⟩:=a6.o.strs;simp only[Qm] at e;obtain⟨rfl,_,rfl⟩:=e;have e8:(m.take (10+q8)).length=10+q8:=by rw[PW,HL.o];omega
       exact⟨pb,pc,m.take (10+q8),z+2,by rw[e8];congr 2<;>omega,A7,A7,λc5 V=>a6.o.sz c5 (List.mem_of_mem_take V),A.take _,A7,A7,a6.o.rd,a6.o.kb⟩
    have e2:((v:Int) == 2)=false:=D7;clear h2;go_wp2
    go_ret
    exact OSt.Kj y.o T.o A7 A7 A7
structure jP (m:Nat)(w wr:QX)(rb wb:Nat)(a:QW)(cap:Nat)(bs:List UInt8)(p:Nat)(v:QY)(L:List Qz):Prop where
 rd:Rd wr rb a cap bs p
 rd0:∃p0,Rd w rb a cap bs p0
 wbl:w.heap.size<=wb
 kb:Xj rb (rb+1) w wr
 row:aH wr wb 25 1
 c0:wr.cell? ⟨wb,0,none⟩=some v
 web:bM wr v L
 tiny:∀d∈L,d.TinyN m
 fr:mR w.heap.size v L
variable {L:List Qz}{bs:List UInt8}{cap m p rb wb:Nat}{a:QW}{v:QY}{w wr:QX}
theorem gK.fin{c:List QY}(h:gK m w wr rb wb a cap bs p v L c):jP m w wr rb wb a cap bs p v L:=
 ⟨h.rd,h.rd0,h.wbl,h.kb,h.row,h.c0,h.web,h.tiny,mR.gW h.own⟩
variable {n:Nat}
theorem jP.mono(h:jP m w wr rb wb a cap bs p v L)(c:m<=n):jP n w wr rb wb a cap bs p v L:=
 ⟨h.rd,h.rd0,h.wbl,h.kb,h.row,h.c0,h.web,(λd e=>(h.tiny d e).mono c),h.fr⟩
variable {N:Nat}{A0:QX}
theorem jP.ends{M:Nat}{b:QX}{p' t:Nat}{e:Ending}(h:jP M A0 b rb wb a cap bs p' v L){c:Nat}(k:aH b c 25 1)(l:w.heap.size<=c)(k0:K_ w A0){m:Nat}(n:Rd w rb a cap bs m)(q:e=.returned (.agg #[v]))(r:p<=p')(h2:p'<=p+t)(s:L.length<=N):jI M N w (b.setCell ⟨c,0,none⟩ v) rb a cap bs p t e:=by
 have x:=k.same (o:=0) v;have d:Below w.heap.size b (b.setCell ⟨c,0,none⟩ v):=(Below.refl _ _).setCell (p:=⟨c,0,none⟩) l _;have f:Xj rb (rb+1) w b:=⟨h.kb.os.trans k0.os,h.kb.tape.trans k0.tape,h.kb.output.trans k0.output,Pz k0.size h.kb.size,λi j y=>(h.kb.block i (Px j k0.size) y).trans (k0.block i j)⟩;exact⟨v,L,p',q,r,h2,s,h.tiny,h.web.same x A8 A8 A8 A8,h.rd.below n d f.size,f.below d,h.fr.mono k0.size⟩
variable {c g k:Nat}
theorem bM.put{o:Nat}{d:Qz}{u:QY}{vs:List QY}(p:bM w (.c g n c) L)(C:k<L.length)(q:aH w g 64 N)(D:k*3<=o/\o+vs.length<=k*3+3)(r:(w.setCells g o vs).rangeAt g (k*3) [.string d.name,.b d.cost,u])(s:dI w u d.steps):bM (w.setCells g o vs) (.c g n c) (L.set k d):=by
 obtain⟨t,h⟩:=q.setCells vs o;obtain⟨E,F,e,v,x,y⟩:=p;simp only[Qm] at e;obtain⟨rfl,rfl,rfl⟩:=e;refine⟨_,c,by rw[QE],by rw[QE];exact v,x,λi a=>?_⟩;rw[QE] at a;obtain⟨j,l,_⟩:=t;by_cases e:i=k
 .subst e;have f:(L.set i d).getD i Qz.zero=d:=by simp[List.getD,a]
  rw[f];exact⟨g,0,j,_,u,rfl,l,by rw[Qb];exact r,s.same h A8 A8 A8⟩
 .have f:(L.set k d).getD i Qz.zero=L.getD i Qz.zero:=by simp[List.getD,Ne.symm e]
  rw[f];obtain⟨b,G,H,I,z,m,J,A,B⟩:=y i a;simp only[Ql,QS,and_true] at m;obtain⟨rfl,rfl⟩:=m;exact⟨g,0,j,_,z,rfl,l,PR A _ _ _ (by right;simp;omega),B.same h A8 A8 A8⟩
theorem CO{d:Qz}(a:∀x∈L,x.TinyN m)(b:d.TinyN m):∀x∈L.set k d,x.TinyN m:=λx c=>by
 rcases List.mem_or_eq_of_mem_set c with h|rfl
 .exact a x h
 .exact b
theorem jP.put{o:Nat}{d:Qz}{u:QY}{vs:List QY}(h:jP m A0 wr rb wb a cap bs p (.c g n c) L)(j:A0.heap.size<=g)(l:k<L.length)(b:aH wr g 64 N)(q:k*3<=o/\o+vs.length<=k*3+3)(r:(wr.setCells g o vs).rangeAt g (k*3) [.string d.name,.b d.cost,u])(s:dI wr u d.steps)(t:d.TinyN m):jP m A0 (wr.setCells g o vs) rb wb a cap bs p (.c g n c) (L.set k d):=by
 obtain⟨x,v⟩:=h.rd0;have e:Below A0.heap.size wr (wr.setCells g o vs):=Below.setCells' j vs o (Below.refl _ _);obtain⟨_,w⟩:=b.setCells vs o;have f:=h.row.jM w A8;exact⟨h.rd.below v e h.kb.size,h.rd0,h.wbl,h.kb.below e,f.1,(f.2 0).trans h.c0,h.web.put l b q r s,CO h.tiny t,λi=>h.fr (by rw[QE] at i;exact i)⟩
theorem bM.cells(i:bM w (.c g n c) L)(j:k<L.length):
  ∃a b,w.rangeAt g (k*3) [.string (L.getD k Qz.zero).name,.b (L.getD k Qz.zero).cost,.slice a (L.getD k Qz.zero).steps.length b]/\dI w (.slice a (L.getD k Qz.zero).steps.length b) (L.getD k Qz.zero).steps:=by
 obtain⟨l,m,e,p,r,q⟩:=i;simp only[Qm] at e;obtain⟨rfl,rfl,rfl⟩:=e;obtain⟨s,t,v,x,y,d,z,f,h⟩:=q k j;simp only[Ql,QS,and_true] at d;obtain⟨rfl,rfl⟩:=d;obtain⟨a,b,rfl⟩:=h.slice;rw[Qb] at f;exact⟨a,b,f,h⟩
theorem Bg{b q:Nat}(h:w.cell? ⟨b,q,none⟩=some v):w.rangeAt b q [v]:=λj x a=>by
 match j,a with
 |0,a=>simp at a;subst a;exact h
 |j+1,a=>simp at a
theorem vV{b q:Nat}{x y z:QY}(f:w.cell? ⟨b,q,none⟩=some x)(h:w.cell? ⟨b,q+1,none⟩=some y)(h2:w.cell? ⟨b,q+2,none⟩=some z):w.rangeAt b q [x,y,z]:=λj v a=>by
 match j,a with
 |0,a=>simp at a;subst a;exact f
 |1,a=>simp at a;subst a;exact h
 |2,a=>simp at a;subst a;exact h2
 |j+3,a=>simp at a
theorem Ht(w:QX)(g o:Nat)(v:QY):w.setCells g o [v]=w.setCell ⟨g,o,none⟩ v:=rfl
theorem jP.IA(h:jP m A0 wr rb wb a cap bs p (.c g n c) L)(j:A0.heap.size<=g)(b:k<L.length)(f:aH wr g 64 N)(r:k*3+3<=N){s:QV}(l:s.size<=300):
  jP m A0 (wr.setCell ⟨g,k*3,none⟩ (.string s)) rb wb a cap bs p (.c g n c) (L.set k ⟨s,(L.getD k Qz.zero).cost,(L.getD k Qz.zero).steps⟩):=by
 obtain⟨t,v,i,q⟩:=h.web.cells b;have e:=h.tiny (L.getD k Qz.zero) (by simp[List.getD,b]);rw[<-Ht];refine h.put (d:=⟨s,(L.getD k Qz.zero).cost,(L.getD k Qz.zero).steps⟩) j b f ⟨Pw _,A9⟩ ?_ q ⟨l,e.cost,e.steps,e.each⟩;rw[Ht];exact vV (bB f.row A7 _) ((Xk A7 _).trans (i 1 _ rfl)) ((Xk A7 _).trans (i 2 _ rfl))
theorem jP.JX(h:jP m A0 wr rb wb a cap bs p (.c g n c) L)(j:A0.heap.size<=g)(e:k<L.length)(f:aH wr g 64 N)(z:k*3+3<=N){cost:Int}{u:QY}{b:List Xq}(l:dI wr u b)(r: -1000<=cost/\cost<=1000)(t:b.length<=21)(w:∀s∈b,s.TinyN m):
  jP m A0 (wr.setCells g (k*3+1) [.b cost,u]) rb wb a cap bs p (.c g n c) (L.set k ⟨(L.getD k Qz.zero).name,cost,b⟩):=by
 obtain⟨A,B,x,_⟩:=h.web.cells e;have y:=h.tiny (L.getD k Qz.zero) (by simp[List.getD,e]);refine h.put (d:=⟨(L.getD k Qz.zero).name,cost,b⟩) j e f ⟨A7,A9⟩ ?_ l ⟨y.name,r,t,w⟩;have i:=PD wr g (k*3+1) [.b cost,u] (f.row.there D7);exact vV (PR (Bg (q:=k*3) (v:=.string (L.getD k Qz.zero).name) (by have:=x 0 _ rfl;rwa [Qp] at this)) _ _ _ (by right;simp only[Qn,List.length_nil];omega) 0 _ rfl) (i 0 _ rfl) (i 1 _ rfl)
theorem jP.setNode(h:jP m A0 wr rb wb a cap bs p (.c g n c) L)(e:A0.heap.size<=g)(f:k<L.length)(b:aH wr g 64 N)(l:k*3+3<=N){d:Qz}{u:QY}(i:dI wr u d.steps)(j:d.TinyN m):
  jP m A0 (wr.setCells g (k*3) [.string d.name,.b d.cost,u]) rb wb a cap bs p (.c g n c) (L.set k d):=
 h.put e f b ⟨Pw _,A9⟩ (PD wr g (k*3) _ (b.row.there D7)) i j
theorem gK.Nw{b:List QY}(h:gK m w wr rb wb a cap bs p v L b)(l:0<L.length):∃g c,v=.c g L.length c/\w.heap.size<=g/\aH wr g 64 (c*3)/\L.length<=c:=by
 rcases h.own.2 with⟨_,e⟩|⟨g,c,d,e,f,i,j,_,k,_⟩
 .omega
 .exact⟨g,c,e,f,⟨d,i,k⟩,j⟩
def Np(M N:Nat)(A0 wx:QX)(rb wb res:Nat)(a:QW)(cap:Nat)(bs:List UInt8)(p t:Nat):Prop:=
 ∃(va:QW)(vc:Nat)(L:List Qz)(p':Nat),p<=p'/\p'<=p+t/\L.length<=N/\aH wx res 25 1/\jP M A0 wx rb wb a cap bs p' (.slice va L.length vc) L
theorem IJ{P:Program}(w:QX)(t u v:TypeId)(d:P.underlying t=some (.slice u))(e:P.underlying u=some (.int .u8))(f:P.underlying v=some .string)(x y:Int):
  (convert t v (.c w.heap.size 2 2)).run P (w.alloc (.cells #[.int .u8 x,.int .u8 y] u))=.ok (.string (strOfNums [x,y])) (w.alloc (.cells #[.int .u8 x,.int .u8 y] u)):=
 run_convert_bytes_arg (P:=P) _ t u d e w.heap.size 0 2 2 [x,y] rfl (λi b=>by
  match i,b with
  |0,_=>rw[World.cell?_alloc_mark];rfl
  |1,_=>rw[World.cell?_alloc_mark];rfl
  |i+2,b=>exact QK b A7) v f
theorem BQ(w:QX):dI (w.alloc (.cells #[J6,.b 0,J6,.b 0,.b 0,.bool true,.bool false,.string ⟨#[]⟩] 146)) (.c w.heap.size 1 1) [bU ⟨#[]⟩]:=by
 have a:=X_ w #[J6,.b 0,J6,.b 0,.b 0,.bool true,.bool false,.string ⟨#[]⟩] 146;refine⟨_,1,rfl,Pw _,λi c=>?_⟩;obtain rfl:i=0:=by simpa using c
 exact⟨w.heap.size,0,_,_,(bU ⟨#[]⟩).cells none 0 none 0,rfl,heap_alloc_new w _,a,(uV _ _).g,qg _⟩
theorem Nb(x:Int)(a:QW)(n c:Nat):(#[.b x,.slice a n c]:Array QY).all (·.oneCell')=true:=G6
theorem Hl(s:QV)(x:Int)(a:QW)(n c:Nat):(#[.string s,.b x,.slice a n c]:Array QY).all (·.oneCell')=true:=G6
theorem Fb(mN:Nat)(k4:mN<=900)(w:QX)(rb:Nat)(a:QW)(cap:Nat)(bs:List UInt8)(p:Nat)(a2:QW)(a3:Nat)(l:List Qz)(Y:Rd w rb a cap bs p)(hp:p<=700000)(a4:bs.length<=2000)(hl:l.length<=200)(g7:∀d∈l,d.TinyN mN)(hG:bM w (.slice a2 l.length a3) l):
  Calls prog 67 #[.h rb,.agg #[.slice a2 l.length a3]] w λe w'=>jI (mN+10) (l.length+62) w w' rb a cap bs p 20 e:=by
 obtain⟨R,b3⟩:=aj ((w.alloc (.cells #[.slice a2 l.length a3] 25)).alloc (.cells #[J6] 25));have k0:K_ w R:=by rw[b3];exact (ai _ _).alloc _
 have g8:R.heap.size=w.heap.size+2:=by rw[b3];simp
 have g9:Hid (aH R (w.heap.size+1) 25 1):=by
  rw[b3];have:=aH.made (w.alloc (.cells #[.slice a2 l.length a3] 25)) #[J6] 25;rw[Qh] at this;exact this
 have p2:=Y.row.lt;have h0:=Kz Y;have h4:=Kz (Y.kept k0);have k5:=Kz (hG.kept k0);clear Y hG;go_enter func67,ntmps67
 go_upto_region 1 with fail
 rw[<-b3];have k6:=Kz g8;have b0:R.cell? ⟨w.heap.size,0,none⟩=some (.slice a2 l.length a3):=by
  rw[b3,K_.cell (w:=w.alloc (.cells #[.slice a2 l.length a3] 25)) (ai _ _) A9];exact X_ w _ _ 0 _ rfl
 have bz:w.heap.size<R.heap.size:=A7;clear b3 g8;go_wp2_with fail
 refine (tZ _ a2 a3 l ⟨#[]⟩ (mN:=mN) A7 A7 g7 k5.o.MM).mono ?_;rintro e w1 ⟨av,q,xs,base,rfl,h5,hO,hP,k1⟩;obtain⟨L,hL⟩:=aj (l.filter (bV (⟨#[]⟩:QV).toList));rw[<-hL] at hO hP⊢;have p3:L.length<=200:=by rw[hL];exact Pz (List.length_filter_le _ _) hl
 have p4:L.length<=l.length:=by rw[hL];exact List.length_filter_le _ _
 have h6:∀d∈L,d.TinyN mN:=λd r=>g7 d (by rw[hL] at r;exact (List.mem_filter.1 r).1)
 have kw:K_ w1 (w1.alloc (.cells #[.slice av L.length q] 25)):=ai _ _;have Z:Hid (gK mN R (w1.alloc (.cells #[.slice av L.length q] 25)) rb w1.heap.size a cap bs p (.slice av L.length q) L xs):=
  ⟨(h4.o.kept k1).kept kw,⟨p,h4.o⟩,k1.size,.ak (k1.trans kw),aH.made w1 _ _,X_ w1 _ _ 0 _ rfl,gX (ay hO kw) h5,hP.same (u:=25) (.ak kw) A8 A8 A8,h6⟩
 have a5:=Kz ((g9.o.kept k1).kept kw);have h7:w.heap.size+1≠w1.heap.size:=by have:=(g9.o.kept k1).lt;omega
 clear hL hO hP h6 k1 kw b0 bz h5;go_upto_region 2 with fail
 obtain⟨w2,h8⟩:=aj (w1.alloc (.cells #[.slice av L.length q] 25));rw[<-h8] at Z a5⊢;clear h8;have y0:=Z.o.c0;have zb:=Z.o.row.lt;by_cases c8:L.length=0
 .have h9:((L.length:Int) == 0)=true:=by simp[c8]
  clear c8;obtain⟨⟨_,x0⟩,k7⟩:=a5.o.row.at (i:=0) A7;have xz:=a5.o.lt;go_wp2
  have Y:=PD w2 (w.heap.size+1) 0 [.slice av L.length q] (a5.o.row.there (o:=0) (m:=1) (Pw _));exact Zx [.slice av L.length q] _ results67 rfl Y underlying25 rfl Tryz.iI rfl ((Z.o.fin.mono (n:=mN+10) A7).ends a5.o A7 k0 h0.o rfl (Pw _) A7 A7)
 have h9:((L.length:Int) == 0)=false:=by simpa using c8
 have a6:0<L.length:=A7;obtain⟨g,gc,H,c1,E,p5⟩:=Z.o.Nw a6;simp only[Qm,true_and] at H;obtain⟨rfl,rfl⟩:=H;clear c8 E;go_wp2_with fail
 refine (qD _ rb a cap bs p L.length Z.o.rd A7 A7 a4).mono ?_;rintro e p7 ⟨k,rfl,hk,i0,e6⟩;have e7:=Kz (Z.o.drawn i0 e6);have i1:=Kz (a5.o.but e6 A7);have S:k<L.length:=A7;clear i0 e6 Z a5 y0 zb h9;go_wp2_with fail
 refine (aM _ rb a cap bs (p+1) _ 5 rfl e7.o.rd A7 A7 a4).mono ?_;rintro e i ⟨s,rfl,p8,i2,e8⟩;have j:=Kz (e7.o.drawn i2 e8);have W:=Kz (i1.o.but e8 A7);clear i2 e8 e7 i1;have a7:Hid (aH i g 64 (q*3)):=by
  obtain⟨g',c',H,_,E,_⟩:=j.o.Nw a6;simp only[Qm,true_and,Ql,QS,and_true] at H;obtain⟨rfl,rfl⟩:=H;exact E
 go_upto_block 0 with fail
 go_cut [7,8,9] from 24 to 115 λ_ _ _ wx=>Np (mN+10) (l.length+62) R wx rb w1.heap.size (w.heap.size+1) a cap bs p 20
 case rest=>
  obtain⟨va,vc,C,p',h1,h2,h3,a8,hF⟩:=hcut;obtain⟨wE,rfl⟩:=aj wc;have⟨HF,c2⟩:=aJ hF a8;have o0:=hF.c0;have oz:=hF.row.lt;obtain⟨⟨_,x0⟩,k7⟩:=a8.row.at (i:=0) A7;have xz:=a8.lt;clear hF a8 j W a7;go_wp2
  have Y:=PD wE (w.heap.size+1) 0 [.slice va C.length vc] (c2.o.row.there (o:=0) (m:=1) (Pw _));exact Zx [.slice va C.length vc] _ results67 rfl Y underlying25 rfl Tryz.iI rfl (HF.o.ends c2.o A7 k0 h0.o rfl h1 h2 h3)
 case first=>
  have y4:=j.o.c0;have d0:=j.o.row.lt;have e9:=a7.o.lt;have b4:k*3+3<=q*3:=A7;have p9:w.heap.size+1≠g:=by have:=k6.o;omega
  have q0:(k:Int)<(L.length:Int):=A7;by_cases T:s=0
  .have d1:((s:Int) == 0)=true:=by simp[T]
   clear T;go_upto_region 10 with fail
   have t:=Kz (j.o.kept (a_ i));have a0:=Kz (W.o.kept (a_ i));refine Qk.region C9 (λ(v:QX)=>v.cell? ⟨w1.heap.size,0,none⟩=some (.c g L.length q)) 14 t.o.c0 λh=>?_;generalize k8:i.drew=wd at h t a0⊢;clear k8 y4 d0 e9 j W a7;refine ax 0 h ?_;refine ae 8 h ?_;refine aD 4 λK b=>?_;go_simp
   go_at_call 10
   refine (aM _ rb a cap bs (p+2) _ 2 rfl t.o.rd A7 A7 a4).mono ?_;rintro e A ⟨a9,rfl,hq,I,x⟩;have U:=Kz (t.o.drawn I x);have b5:=Kz (a0.o.but x A7);dsimp only;refine b.out _ _ (λ_=>U.o.c0) ?_;clear b K h I x t a0;have h:=U.o.c0;try simp only[upP]
   have ew:IntKind.i64.wrap (20+(a9:Int))=20+(a9:Int):=E9;refine bZ 5 (.b (20+(a9:Int))) h ?_ ?_
   .intro u hu;try dsimp only at hu
    go_simp
    try with_reducible rfl
   try simp only[upP]
   refine aD 6 λK b=>?_;go_simp
   go_at_call 110
   refine (wL _ ⟨#[110]⟩ _ (20+a9) (by push_cast;rfl) A7 A8).mono ?_;rintro e w6 ⟨⟨J,rfl,hx⟩,k9⟩;have l0:J.size<=300:=by have e1:(⟨#[110]⟩:QV).size=1:=rfl;rw[e1] at hx;omega
   subst k9;dsimp only;refine af b (λ_=>U.o.c0) ?_;clear b K;have i3:∀c∈([⟨#[]⟩,⟨#[45]⟩,⟨#[97,44,98]⟩,⟨#[97]⟩,J]:List QV),c.size<=300:=by
    intro c hc;simp only[Qr,Qs,or_false] at hc;rcases hc with rfl|rfl|rfl|rfl|rfl<;>first|exact l0|decide
   clear ew;refine iX 7 9 (λK b=>?_) λK b=>?_
   .rw[QI D8];go_simp
    have K3:K_ w6 (w6.alloc (.cells #[.string ⟨#[]⟩,.string ⟨#[45]⟩,.string ⟨#[97,44,98]⟩,.string ⟨#[97]⟩,.string J] 9)):=ai _ _;have b6:=Kz (U.o.kept K3);have b7:=Kz (b5.o.kept K3);refine af b (λ_=>b6.o.c0) ?_;clear b K;clear h K3;refine aD 9 λK b=>?_;go_simp
    go_at_call 10
    refine (aM _ rb a cap bs (p+3) _ 5 rfl b6.o.rd A7 A7 a4).mono ?_;rintro e wE ⟨y,rfl,f0,I,x⟩;have B:=Kz (b6.o.drawn I x);have d2:=Kz (b7.o.but x A7);obtain⟨c,hc,f1⟩:=CF [⟨#[]⟩,⟨#[45]⟩,⟨#[97,44,98]⟩,⟨#[97]⟩,J] x U.o.rd.row.lt y (by show y<5;omega) i3;have lz:w6.heap.size<wE.heap.size:=Nat.lt_of_lt_of_le A9 x.size;clear I x;dsimp only;refine af b (λ_=>B.o.c0) ?_;clear b K;have l1:(y:Int)<5:=A7;refine au 10 λK b=>?_;go_simp
    refine af b (λ_=>B.o.c0) ?_;clear b K;refine au 11 λK b=>?_;go_simp
    refine af b (λ_=>B.o.c0) ?_;clear b K;have h:=B.o.c0;refine ae 12 h ?_;refine ae 13 h ?_;have f:aH wE g 64 (q*3):=by
     obtain⟨g',c',H,_,E,_⟩:=B.o.Nw a6;simp only[Qm,true_and,Ql,QS,and_true] at H;obtain⟨rfl,rfl⟩:=H;exact E
    have zg:=f.lt;obtain⟨⟨_,u0⟩,l2⟩:=f.row.at (i:=k*3) A7;have HF:=Kz ((B.o.fin.mono (n:=mN+10) A7).IA c1 S f b4 f1);have b1:=Kz (d2.o.jM (f.same (o:=k*3) (.string c)) A8).1;clear f;refine au 14 λK b=>?_;go_simp
    refine af b (λX=>QK rfl X) ?_;clear b K;refine aF ?_;go_wp2
    go_meet
    exact⟨some ⟨g,0,none⟩,q,L.set k ⟨c,(L.getD k Qz.zero).cost,(L.getD k Qz.zero).steps⟩,p+4,A7,A7,H5,b1.o,by rw[QE];exact HF.o⟩
   .rw[QI D8];go_simp
    go_at_call 10
    refine (aM _ rb a cap bs (p+3) _ 5 rfl U.o.rd A7 A7 a4).mono ?_;rintro e M ⟨y,rfl,f0,I,x⟩;have b6:=Kz (U.o.drawn I x);have b7:=Kz (b5.o.but x A7);clear I x;dsimp only;refine af b (λ_=>b6.o.c0) ?_;clear b K h;refine aD 7 λK b=>?_;go_simp
    have K3:K_ M (M.alloc (.cells #[.string ⟨#[]⟩,.string ⟨#[45]⟩,.string ⟨#[97,44,98]⟩,.string ⟨#[97]⟩,.string J] 9)):=ai _ _;have B:=Kz (b6.o.kept K3);have d2:=Kz (b7.o.kept K3);obtain⟨c,hc,f1⟩:=Ej M 9 [⟨#[]⟩,⟨#[45]⟩,⟨#[97,44,98]⟩,⟨#[97]⟩,J] y (by show y<5;omega) i3;have lz:M.heap.size<(M.alloc (.cells #[.string ⟨#[]⟩,.string ⟨#[45]⟩,.string ⟨#[97,44,98]⟩,.string ⟨#[97]⟩,.string J] 9)).heap.size:=A9;have l3:(M.alloc (.cells #[.string ⟨#[]⟩,.string ⟨#[45]⟩,.string ⟨#[97,44,98]⟩,.string ⟨#[97]⟩,.string J] 9)).cell? ⟨M.heap.size,y,none⟩=some (.string c):=hc;refine b.out _ _ (λ_=>B.o.c0) ?_;clear b K hc K3;generalize l4:M.alloc (.cells #[.string ⟨#[]⟩,.string ⟨#[45]⟩,.string ⟨#[97,44,98]⟩,.string ⟨#[97]⟩,.string J] 9)=wE at B d2 lz l3⊢;clear l4;try simp only[upP]
    have l1:(y:Int)<5:=A7;refine au 10 λK b=>?_;go_simp
    refine af b (λ_=>B.o.c0) ?_;clear b K;refine au 11 λK b=>?_;go_simp
    refine af b (λ_=>B.o.c0) ?_;clear b K;have h:=B.o.c0;refine ae 12 h ?_;refine ae 13 h ?_;have f:aH wE g 64 (q*3):=by
     obtain⟨g',c',H,_,E,_⟩:=B.o.Nw a6;simp only[Qm,true_and,Ql,QS,and_true] at H;obtain⟨rfl,rfl⟩:=H;exact E
    have zg:=f.lt;obtain⟨⟨_,u0⟩,l2⟩:=f.row.at (i:=k*3) A7;have HF:=Kz ((B.o.fin.mono (n:=mN+10) A7).IA c1 S f b4 f1);have b1:=Kz (d2.o.jM (f.same (o:=k*3) (.string c)) A8).1;clear f;refine au 14 λK b=>?_;go_simp
    refine af b (λX=>QK rfl X) ?_;clear b K;refine aF ?_;go_wp2
    go_meet
    exact⟨some ⟨g,0,none⟩,q,L.set k ⟨c,(L.getD k Qz.zero).cost,(L.getD k Qz.zero).steps⟩,p+4,A7,A7,H5,b1.o,by rw[QE];exact HF.o⟩
  by_cases h1:s=1
  .have d1:((s:Int) == 0)=false:=by simpa using T
   have e1:((s:Int) == 1)=true:=by simp[h1]
   clear T h1;obtain⟨F,N,f,z⟩:=j.o.web.cells S;obtain⟨d,r⟩:=aj (L.getD k Qz.zero);have O:=j.o.tiny d (by rw[r];simp[List.getD,S]);rw[<-r] at f z;have D:=f 1 _ rfl;have n2:=f 2 _ rfl;have c3:=Kz z;have l5:Hid (lT i F d.steps):=by
    obtain⟨q2,c9,i4,_,hS⟩:=z.GJ;simp only[Qm,true_and] at i4;obtain⟨rfl,rfl⟩:=i4;exact hS
   have⟨HD,b2⟩:=aJ r O;clear f z r O;go_upto_region 12 with fail
   refine Qk.region C9 (λ(v:QX)=>v.cell? ⟨w1.heap.size,0,none⟩=some (.c g L.length q)/\v.cell? ⟨g,k*3+1,none⟩=some (.b d.cost)/\v.cell? ⟨g,k*3+2,none⟩=some (.slice F d.steps.length N)) 13 ⟨y4,D,n2⟩ λh=>?_;refine ax 0 h ?_;refine ax 4 h ?_;refine ae 8 h ?_;refine ae 9 h ?_;refine aD 10 λK b=>?_;go_simp
   go_at_call 111
   refine (JD mN k4 _ rb a cap bs (p+2) d.cost F N d.steps ((j.o.kept (a_ i)).rd) A7 a4 b2.o.steps b2.o.cost b2.o.each (l5.o.kept (a_ i))).mono ?_;rintro e w6 ⟨cost,u,LS,p6,rfl,q3,q4,l6,l7,l8,i5,i6,d3⟩;have U:=Kz ((j.o.kept (a_ i)).drawn i6 d3);have b5:=Kz ((W.o.kept (a_ i)).but d3 A7);have i7:=Kz i5.g;obtain⟨ua,uc,rfl⟩:=i7.o.slice;have c4:=d3.sameKind (j.o.kept (a_ i)).rd;have f:=a7.o.kept (a_ i);have d4:=f.jM c4 A8;have i8:(λ(v:QX)=>v.cell? ⟨w1.heap.size,0,none⟩=some (.c g L.length q)/\v.cell? ⟨g,k*3+1,none⟩=some (.b d.cost)/\v.cell? ⟨g,k*3+2,none⟩=some (.slice F d.steps.length N)) w6:=⟨U.o.c0,(d4.2 _).trans D,(d4.2 _).trans n2⟩;have f2:=Kz d4.1;dsimp only;refine b.out _ _ (λ_=>i8) ?_;clear b K h i5 i6 d3 c4 f d4;have h:=i8;try simp only[upP]
   refine ae 11 h ?_;refine ae 12 h ?_;have HF:=Kz ((U.o.fin.mono (n:=mN+10) A7).JX c1 S f2.o b4 i7.o l7 l6 l8);have b1:=Kz (b5.o.jM (f2.o.setCells [.b cost,.slice ua LS.length uc] (k*3+1)).2 A8).1;refine aD 13 λK b=>?_;refine wp_store_mid 62 _ _ rfl g (k*3+1) #[.b cost,.slice ua LS.length uc] D8 D8 (f2.o.row.there D7) C9 (Nb ..) ?_;refine af b (λX=>QK rfl X) ?_;clear b K;refine aF ?_;go_wp2
   go_meet
   exact⟨some ⟨g,0,none⟩,q,L.set k ⟨(L.getD k Qz.zero).name,cost,LS⟩,p6,A7,A7,H5,b1.o,by rw[QE];exact HF.o⟩
  by_cases h2:s=2
  .have d1:((s:Int) == 0)=false:=by simpa using T
   have e1:((s:Int) == 1)=false:=by rw[beq_eq_false_iff_ne];omega
   have e2:((s:Int) == 2)=true:=by simp[h2]
   clear T h1 h2;go_wp2_with fail
   refine (aM _ rb a cap bs (p+2) _ 2 rfl j.o.rd A7 A7 a4).mono ?_;rintro e A ⟨a9,rfl,hq,I,x⟩;have t:=Kz (j.o.drawn I x);have a0:=Kz (W.o.but x A7);clear I x j W a7 y4 d0 e9;obtain⟨D,q5⟩:∃D:Nat,D=60+a9:=⟨_,rfl⟩;go_wp2
   go_loopg [8] (D-L.length) λgq J wr=>∃(a1:Nat)(v:QY)(C:List Qz)(ys:List QY),J=.b (a1:Int)/\a1+gq<=61/\D<=C.length+gq/\(gq=0\/C.length+gq=D)/\C.length<=l.length+61/\aH wr (w.heap.size+1) 25 1/\gK mN R wr rb w1.heap.size a cap bs (p+3) v C ys
   case atStart=>exact⟨0,_,L,xs,rfl,A7,A7,A7,A7,a0.o,t.o⟩
   case round=>
    clear t a0;obtain⟨a1,v,C,ys,rfl,hi,hn,l9,m0,a8,hS⟩:=hrel;obtain⟨wO,rfl⟩:=aj wr;have⟨HO,c2⟩:=aJ hS a8;obtain⟨va,vc,rfl⟩:=aG hS.own;have y0:=hS.c0;have zb:=hS.row.lt;clear hS a8;by_cases m1:(C.length:Int)<60+(a9:Int)
    .have q6:0<gk:=A7;obtain⟨d5,f3⟩:=aj (C.length);have q7:d5<=61:=A7;have HN:=Kz f3;rw[<-f3] at y0 m1 hn l9 m0;obtain⟨q1,m2⟩:=aj (a1 / 26);obtain⟨y,f0⟩:=aj (a1 % 26);have et:(a1:Int).tdiv 26= (q1:Int):=by rw[Int.tdiv_eq_ediv_of_nonneg A7];omega
     have er:(a1:Int).tmod 26= (y:Int):=by rw[Int.tmod_eq_emod_of_nonneg A7];omega
     have q8:q1<=2:=A7;have q9:y<=25:=A7;clear m2 f0 f3;have m3:=Kz (IJ (P:=prog) wO 22 5 9 underlying22 underlying5 underlying9 (97+(q1:Int)) (97+(y:Int)));obtain⟨bz,f4⟩:=aj (strOfNums [97+(q1:Int),97+(y:Int)]);have m4:bz.size=2:=by rw[f4];rfl
     obtain⟨Q,i9⟩:∃Q:QV,(⟨#[122,122]⟩:QV)++bz=Q:=⟨_,rfl⟩;have j0:Q.size<=300:=by rw[<-i9,ByteArray.size_append,m4];decide
     have b4:=m3.o;rw[<-f4] at b4;have f6:¬9223372036854775807<2+bz.size:=A7;have r0:¬9223372036854775807<4:=A7;obtain⟨G,c5⟩:=aj (wO.alloc (.cells #[.int .u8 (97+(q1:Int)),.int .u8 (97+(y:Int))] 5));have j1:K_ wO G:=by rw[c5];exact ai _ _
     have f5:Hid (dI (G.alloc (.cells #[J6,.b 0,J6,.b 0,.b 0,.bool true,.bool false,.string ⟨#[]⟩] 146)) (.c G.heap.size 1 1) [bU ⟨#[]⟩]):=BQ G;have f7:K_ G (G.alloc (.cells #[J6,.b 0,J6,.b 0,.b 0,.bool true,.bool false,.string ⟨#[]⟩] 146)):=ai _ _;obtain⟨W2,d6⟩:=aj (G.alloc (.cells #[J6,.b 0,J6,.b 0,.b 0,.bool true,.bool false,.string ⟨#[]⟩] 146));rw[<-d6] at f5 f7;have d7:K_ W2 (W2.alloc (.cells #[.string Q,.b 1,.c G.heap.size 1 1] 64)):=ai _ _;obtain⟨W3,f8⟩:=aj (W2.alloc (.cells #[.string Q,.b 1,.c G.heap.size 1 1] 64));have f9:=og W2 Q 1 (.c G.heap.size 1 1);rw[<-f8] at d7 f9;have d8:=Kz ((j1.trans f7).trans d7);have j2:=Kz (HO.o.kept d8.o);have g0:=j2.o.own;rw[<-HN.o] at g0;have⟨j3,m5,m6⟩:=dC g0 j2.o.kb.size f9;have m7:=Kz (f5.o.same (u:=25) (.ak d7) A8 A8 A8);have HD:Hid (Qz.TinyN mN ⟨Q,1,[bU ⟨#[]⟩]⟩):=⟨j0,⟨by show (-1000:Int)<=1;decide,by show (1:Int)<=1000;decide⟩,by show 1<=21;omega,λr1 hy=>by simp only[PI] at hy;subst hy;exact jr (show (0:Nat)<=300 by omega)⟩;obtain⟨g1,g2,g3,g4,g5⟩:=aV Tryz.nV;have HE:Hid (((wO.alloc (.cells #[.int .u8 (97+(q1:Int)),.int .u8 (97+(y:Int))] 5)).alloc (.cells #[J6,.b 0,J6,.b 0,.b 0,.bool true,.bool false,.string ⟨#[]⟩] 146)).alloc (.cells #[.string ((⟨#[122,122]⟩:QV)++strOfNums [97+(q1:Int),97+(y:Int)]),.b 1,.c (wO.heap.size+1) 1 1] 64)=W3):=by
      show _=_;rw[f8,d6,c5,<-i9,f4];simp only[Qh]
     have j4:wO.heap.size+1=G.heap.size:=by rw[c5];simp
     have j5:wO.heap.size+1+1=W2.heap.size:=by rw[d6,c5];simp
     have⟨r2,m8⟩:=aJ j4 j5;clear c5 d6 f8 j1 f7 d7 f9 g0 j4 j5 j0 f5;go_wp2_with (at_builtin;rw[HE.o];refine wpList_append_lies _ rfl (.tmp 85) (.tmp 101) 23 rfl R.heap.size 64 g1 _ 3 48 underlying23 g2 g3 g4 g5 rfl A8 (.slice va d5 vc) d5 ys rfl j3.o ⟨W2.heap.size,0,none⟩ 1 1 [.string Q,.b 1,.c G.heap.size 1 1] (by rw[<-m8.o];rfl) rfl m6.o (oU _ _ _ _ _) A7 D6 A7 m5.o _ rfl ?_;intro r3 c9 w9 j6 E _ _;have V:=HO.o.gB d8.o (by rw[<-HN.o];exact E);have y9:=V.1;have z9:=V.2.lt;have m9:=(V.2.row.at (i:=0) A7).2;have n1:=Kz (HO.o.push (d:=⟨Q,1,[bU ⟨#[]⟩]⟩) d8.o m7.o HD.o (by rw[<-HN.o];exact j6) (by rw[<-HN.o];exact E));have n3:Hid (aH w9 (w.heap.size+1) 25 1):=((c2.o.kept d8.o).jM (aB.aI j3.o E) A8).1;clear V j6 E)
     go_roundg (gk-1)
     case rel=>
      have hP:=n1.o;have j7:(C++[⟨Q,1,[bU ⟨#[]⟩]⟩]:List Qz).length=d5+1:=by rw[Qi,HN.o];rfl
      exact⟨a1+1,_,C++[⟨Q,1,[bU ⟨#[]⟩]⟩],_,C8,A7,A7,A7,A7,n3.o.block (Below.heap_setCell _ _ _ _ (by simpa using h7)),hP⟩
     case measure=>omega
    .go_wp2
     go_meet
     exact⟨va,vc,C,p+3,A7,A7,A7,c2.o,HO.o.fin.mono A7⟩
  by_cases h3:s=3
  .have d1:((s:Int) == 0)=false:=by simpa using T
   have e1:((s:Int) == 1)=false:=by rw[beq_eq_false_iff_ne];omega
   have e2:((s:Int) == 2)=false:=by rw[beq_eq_false_iff_ne];omega
   have n4:((s:Int) == 3)=true:=by simp[h3]
   clear T h1 h2 h3;obtain⟨F,N,f,z⟩:=j.o.web.cells S;obtain⟨d,r⟩:=aj (L.getD k Qz.zero);have O:=j.o.tiny d (by rw[r];simp[List.getD,S]);rw[<-r] at f z;have n0:=f 0 _ rfl;have D:=f 1 _ rfl;have n2:=f 2 _ rfl;rw[Qp] at n0;have⟨c3,b2⟩:=aJ z O;clear f z r O;obtain⟨g1,g2,g3,g4,g5⟩:=aV Tryz.nV;go_upto_region 20 with fail
   refine Qk.region C9 (λ(v:QX)=>v.cell? ⟨w1.heap.size,0,none⟩=some (.c g L.length q)) 10 y4 λh=>?_;refine ax 0 h ?_;refine ae 4 h ?_;refine ae 5 h ?_;refine au 6 λK b=>?_;go_simp
   refine af b (λ_=>y4) ?_;clear b K;refine au 7 λK b=>?_;go_simp
   have KW:K_ i (i.drew.alloc (.cells #[.string d.name,.b d.cost,.slice F d.steps.length N] 64)):=(a_ i).alloc _;refine af b (λ_=>(KW.cell d0).trans y4) ?_;clear b K h;refine au 8 λK b=>?_;have t:=Kz (j.o.kept KW);refine step_append_lies _ rfl (.tmp 107) (.tmp 113) 23 rfl R.heap.size 64 g1 _ 3 48 underlying23 g2 g3 g4 g5 rfl A8 (.c g L.length q) L.length xs E5 t.o.own ⟨i.heap.size,0,none⟩ 1 1 [.string d.name,.b d.cost,.slice F d.steps.length N] E5 rfl (og _ _ _ _) (oU _ _ _ _ _) A7 D6 A7 t.o.kb.size _ rfl ?_;intro n5 n6 w6 j8 d9 n7 r4;have V:=j.o.gB KW d9;have y6:=V.1;have r5:=V.2.lt;have m9:=(V.2.row.at (i:=0) A7).2;obtain⟨vo,r6⟩:=(V.2.row.at (i:=0) A7).1;have n8:=Kz (j.o.push (d:=d) KW (c3.o.same (u:=25) (.ak KW) A8 A8 A8) b2.o j8 d9);have c4:=aB.aI t.o.own d9;have b5:Hid (aH w6 (w.heap.size+1) 25 1):=((W.o.kept KW).jM c4 A8).1;clear V j8 d9 n7 c4 KW;refine af b (λ_=>y6) ?_;clear b K;have h:=y6;refine ae 9 h ?_;refine au 10 λK b=>?_;go_simp
   refine af b (λX=>QK rfl X) ?_;clear b K;refine aF ?_;go_wp2
   go_meet
   have hF:=n8.o.fin.mono (n:=mN+10) A7;have j7:(L++[d]).length=L.length+1:=A9;exact⟨some ⟨n5,0,none⟩,n6,L++[d],p+2,A7,A7,A7,b5.o.block (Below.heap_setCell _ _ _ _ (by simpa using h7)),by rw[j7];exact hF⟩
  have d1:((s:Int) == 0)=false:=by simpa using T
  have e1:((s:Int) == 1)=false:=by rw[beq_eq_false_iff_ne];omega
  have e2:((s:Int) == 2)=false:=by rw[beq_eq_false_iff_ne];omega
  have n4:((s:Int) == 3)=false:=by rw[beq_eq_false_iff_ne];omega
  clear T h1 h2 h3;obtain⟨F,N,f,z⟩:=j.o.web.cells a6;obtain⟨d,r⟩:=aj (L.getD 0 Qz.zero);have O:=j.o.tiny d (by rw[r];simp[List.getD,a6]);rw[<-r,Nat.zero_mul] at f;rw[<-r] at z;have n0:=f 0 _ rfl;have D:=f 1 _ rfl;have n2:=f 2 _ rfl;simp only[Qb] at n0 D n2;have⟨c3,b2⟩:=aJ z O;have r7:(0:Int)<(L.length:Int):=A7;clear f z r O;go_upto_region 7 with fail
  obtain⟨A,c6⟩:=aj (i.alloc (.cells #[.string d.name,.b d.cost,.slice F d.steps.length N] 64));have K5:K_ i A:=by rw[c6];exact ai _ _
  have hx:=X_ i #[.string d.name,.b d.cost,.slice F d.steps.length N] 64;rw[<-c6] at hx;have x0:=hx 0 _ rfl;have x1:=hx 1 _ rfl;have x2:=hx 2 _ rfl;simp only[Qb] at x0 x1 x2;have xz:i.heap.size<A.heap.size:=by rw[c6];simp
  rw[<-c6];have t:=Kz (j.o.kept K5);have a0:=Kz (W.o.kept K5);have e0:=Kz (a7.o.kept K5);have n9:=Kz (c3.o.same (u:=25) (.ak K5) A8 A8 A8);have o1:g≠i.heap.size:=A7;clear c6 K5 hx y4 d0 e9 j W a7 c3 n0 D n2;have y5:=t.o.c0;have r8:=t.o.row.lt;have r9:=e0.o.lt;obtain⟨b8,b9,f,z⟩:=t.o.web.cells S;obtain⟨n,r⟩:=aj (L.getD k Qz.zero);have O:=t.o.tiny n (by rw[r];simp[List.getD,S]);rw[<-r] at f z;have n0:=f 0 _ rfl;have D:=f 1 _ rfl;have n2:=f 2 _ rfl;rw[Qp] at n0;have⟨o2,o3⟩:=aJ z O;clear f z r O;have KD:K_ A A.drew:=a_ A;have e3:=Kz (((t.o.kept KD).fin.mono (n:=mN+10) A7).setNode (k:=0) (d:=n) c1 a6 (e0.o.kept KD) A7 (o2.o.same (u:=25) (.ak KD) A8 A8 A8) (o3.o.mono A7));have e4:=(e0.o.kept KD).setCells [.string n.name,.b n.cost,.slice b8 n.steps.length b9] (0*3);have c7:=Kz e4.1;have b7:=Kz ((a0.o.kept KD).jM e4.2 A8).1;have j9:=Kz ((n9.o.same (u:=25) (.ak KD) A8 A8 A8).same e4.2 A8 A8 A8);have e5:∀o v,A.cell? ⟨i.heap.size,o,none⟩=some v->(A.drew.setCells g (0*3) [.string n.name,.b n.cost,.slice b8 n.steps.length b9]).cell? ⟨i.heap.size,o,none⟩=some v:=λo v hv=>(PR (Bg (w:=A.drew) (q:=o) hv) _ _ _ (.inl λe=>o1 (by simpa using e.symm))) 0 _ rfl
  have o4:=e5 _ _ x0;have o5:=e5 _ _ x1;have o6:=e5 _ _ x2;have o7:i.heap.size<(A.drew.setCells g (0*3) [.string n.name,.b n.cost,.slice b8 n.steps.length b9]).heap.size:=by rw[size_setCells];exact xz
  clear e4 e5 KD;refine Qk.region C9 (λ(v:QX)=>v.cell? ⟨w1.heap.size,0,none⟩=some (.c g L.length q)) 8 y5 λh=>?_;refine ax 0 h ?_;refine ae 4 h ?_;refine ae 5 h ?_;refine au 6 λK b=>?_;go_simp
  refine af b (λ_=>y5) ?_;clear b K;refine ae 7 h ?_;refine aD 8 λK b=>?_;refine wp_store_mid 64 _ _ rfl g (0*3) #[.string n.name,.b n.cost,.slice b8 n.steps.length b9] D8 D8 ((e0.o.kept (a_ A)).row.there D7) C9 (Hl ..) ?_;refine af b (λX=>QK rfl X) ?_;clear b K;refine aF ?_;obtain⟨M,g6⟩:=aj (A.drew.setCells g (0*3) [.string n.name,.b n.cost,.slice b8 n.steps.length b9]);rw[<-g6] at e3 c7 b7 j9 o4 o5 o6 o7;have k2:A.drew.setCells g (0*3) (#[.string n.name,.b n.cost,.slice b8 n.steps.length b9]:Array QY).toList=M:=g6.symm;rw[k2];clear k2;clear g6;have s0:=e3.o.c0;have s1:=e3.o.row.lt;have s2:=c7.o.lt;have o8:k<(L.set 0 n).length:=by rw[QE];exact S
  have o9:=Kz (e3.o.setNode (k:=k) (d:=d) c1 o8 c7.o b4 j9.o (b2.o.mono A7));have b1:=Kz (b7.o.jM (c7.o.setCells [.string d.name,.b d.cost,.slice F d.steps.length N] (k*3)).2 A8).1;have p0:Hid (M.there g (k*3) 3):=c7.o.row.there A7;have k3:(prog.info? 64).map (·.size)=some 3:=C9;have p1:=Kz k3;clear k3;go_wp2_with (refine wpList_store_mid rfl 64 _ _ rfl g (k*3) #[.string d.name,.b d.cost,.slice F d.steps.length N] rfl rfl p0.o p1.o (Hl ..) ?_)
  go_meet
  exact⟨some ⟨g,0,none⟩,q,(L.set 0 n).set k d,p+2,A7,A7,by rw[QE,QE];omega,b1.o,by rw[QE,QE];exact o9.o⟩
structure kH (wO wr:QX)(rb sb:Nat)(a:QW)(cap:Nat)(bs:List UInt8)(p:Nat)(aa:QW)(ca:Nat)(s:Xq):Prop where
 rd:Rd wr rb a cap bs p
 kb:Xj rb (rb+1) wO wr
 sbl:wO.heap.size<=sb
 box:dJ wr sb (.slice aa s.asks.length ca) J6 s
 asks:oZ wr aa s.asks
 room:s.asks.length<=ca
 nil:aa=none->s.asks.length=0/\ca=0
 cases:s.cases=[]
 tiny:s.TinyN 20
variable {ca sb:Nat}{aa:QW}{s:Xq}{w' wO:QX}
theorem kH.kept(h:kH wO wr rb sb a cap bs p aa ca s)(k:K_ wr w'):kH wO w' rb sb a cap bs p aa ca s:=
 ⟨h.rd.kept k,h.kb.gJ k,h.sbl,h.box.kept k,h.asks.same (u:=25) (.ak k) A8,h.room,h.nil,h.cases,h.tiny⟩
theorem kH.drawn{p':Nat}(h:kH wO wr rb sb a cap bs p aa ca s)(d:rb<wO.heap.size)(c:Rd w' rb a cap bs p')(k:Xj rb (rb+1) wr w'):kH wO w' rb sb a cap bs p' aa ca s:=by
 have e:=h.sbl;exact⟨c,h.kb.trans k,h.sbl,h.box.block (k.block sb h.box.row.lt A7),h.asks.same (k.sameKind h.rd) A8,h.room,h.nil,h.cases,h.tiny⟩
theorem kH.steps(h:kH wO wr rb sb a cap bs p aa ca s):
  dI (wr.alloc (.cells #[.slice aa s.asks.length ca,.b s.on,J6,.b s.els,.b s.fall,.bool s.fin,.bool s.bad,.string s.give,J6,.b 0,J6,.b 0,.b 0,.bool true,.bool false,.string ⟨#[114]⟩] 146)) (.c wr.heap.size 2 2) [s,bU ⟨#[114]⟩]:=by
 have k:K_ wr (wr.alloc (.cells #[.slice aa s.asks.length ca,.b s.on,J6,.b s.els,.b s.fall,.bool s.fin,.bool s.bad,.string s.give,J6,.b 0,J6,.b 0,.b 0,.bool true,.bool false,.string ⟨#[114]⟩] 146)):=ai _ _;have d:=X_ wr #[.slice aa s.asks.length ca,.b s.on,J6,.b s.els,.b s.fall,.bool s.fin,.bool s.bad,.string s.give,J6,.b 0,J6,.b 0,.b 0,.bool true,.bool false,.string ⟨#[114]⟩] 146;have e:s.cases.length=0:=by rw[h.cases];rfl
 refine⟨_,2,rfl,Pw _,λi f=>?_⟩
 match i,f with
 |0,_=>
  refine⟨wr.heap.size,0,_,_,s.cells aa ca none 0,rfl,heap_alloc_new wr _,λj u b=>?_,⟨aa,ca,none,0,rfl,h.asks.same (u:=25) (.ak k) A8,.inl h.cases,h.room⟩,kZ h.nil λ_=>⟨e,rfl⟩⟩;have c:j<8:=by have:=(PG.1 b).1;simpa[Xq.cells] using this
  refine d j u ?_;rw[<-b];unfold Xq.cells;rw[e]
  match j,c with
  |0,_|1,_|2,_|3,_|4,_|5,_|6,_|7,_=>rfl
 |1,_=>
  refine⟨wr.heap.size,0,_,_,(bU ⟨#[114]⟩).cells none 0 none 0,rfl,heap_alloc_new wr _,λj u b=>?_,(uV _ _).g,qg _⟩;have c:j<8:=by have:=(PG.1 b).1;simpa[Xq.cells] using this
  have:=d (8+j) u;rw[<-Nat.add_assoc] at this;refine this ?_;rw[<-b]
  match j,c with
  |0,_|1,_|2,_|3,_|4,_|5,_|6,_|7,_=>rfl
theorem Cj{α:Type}{p:α->Prop}{x y z:α}(h:x∈[y,z])(hy:p y)(d:p z):p x:=by
 simp only[Qr,Qs,or_false] at h;rcases h with rfl|rfl
 .exact hy
 .exact d
theorem dJ.ring(w:QX)(b:QY)(l:List QV):dJ (w.alloc (.cells #[b,.b 0,J6,.b 1,.b (-1),.bool false,.bool false,.string ⟨#[]⟩] 146)) w.heap.size b J6 ⟨l,0,[],1, -1,false,false,⟨#[]⟩⟩:=by
 have e:=X_ w #[b,.b 0,J6,.b 1,.b (-1),.bool false,.bool false,.string ⟨#[]⟩] 146;have a:∀j v,(#[b,.b 0,J6,.b 1,.b (-1),.bool false,.bool false,.string ⟨#[]⟩]:Array QY).toList[j]? =some v->(w.alloc (.cells #[b,.b 0,J6,.b 1,.b (-1),.bool false,.bool false,.string ⟨#[]⟩] 146)).cell? ⟨w.heap.size,j,none⟩=some v:=λj v f=>by
  have:=e j v f;rw[Qb] at this;exact this
 exact⟨aH.made w _ _,a 0 _ rfl,a 1 _ rfl,a 2 _ rfl,a 3 _ rfl,a 4 _ rfl,a 5 _ rfl,a 6 _ rfl,a 7 _ rfl⟩
theorem IU{w2:QX}(b:Rd wO rb a cap bs p)(k:K_ wO w2){x:QV}(h:x.size<=300):
  SSt wO ((w2.alloc (.cells #[.string x] 9)).alloc (.cells #[.c w2.heap.size 1 1,.b 0,J6,.b 1,.b (-1),.bool false,.bool false,.string ⟨#[]⟩] 146)) rb (w2.heap.size+1) a cap bs p (.c w2.heap.size 1 1) J6 ⟨[x],0,[],1, -1,false,false,⟨#[]⟩⟩:=by
 have i:K_ w2 (w2.alloc (.cells #[.string x] 9)):=ai _ _;have c:K_ (w2.alloc (.cells #[.string x] 9)) ((w2.alloc (.cells #[.string x] 9)).alloc (.cells #[.c w2.heap.size 1 1,.b 0,J6,.b 1,.b (-1),.bool false,.bool false,.string ⟨#[]⟩] 146)):=ai _ _;have K:=(k.trans i).trans c;have m:=k.size;have e:=dJ.ring (w2.alloc (.cells #[.string x] 9)) (.c w2.heap.size 1 1) [x];rw[Qh] at e;have j:(w2.alloc (.cells #[.string x] 9)).ownsRow wO.heap.size 9 1 (.c w2.heap.size 1 1) 1 [.string x]:=⟨rfl,.inr ⟨w2.heap.size,1,_,rfl,k.size,heap_alloc_new w2 _,Pw _,D6,rfl,rfl⟩⟩;exact⟨b.kept K,⟨p,b⟩,A7,.ak K,e,ay j c,Qt _ _ _ _,⟨by show 1<=20;omega,(λy f=>by simp at f;subst f;exact h),J2,Py _,(λq l=>by simp at l),by show (-9223372036854775808:Int)<=1/\(1:Int)<=9223372036854775807;decide,by show (-1000:Int)<= -1/\(-1:Int)<=1000;decide,by show (0:Nat)<=300;omega⟩⟩
theorem gM.ring(h:SSt wO wr rb sb a cap bs p (.slice aa n ca) J6 s)(c:s.cases=[]):n=s.asks.length/\kH wO wr rb sb a cap bs p aa ca s:=by
 obtain⟨i,j,b,d,e⟩:=dD h.asks;simp only[Qm] at b;obtain⟨rfl,rfl,rfl⟩:=b;exact⟨rfl,h.rd,h.kb,h.sbl,h.box,e.g,d,λf=>by subst f;exact jG h.asks,c,h.tiny⟩
theorem gM.tail(h:SSt wO wr rb sb a cap bs p (.c g s.asks.length c) J6 s)(r:s.cases=[])(f:1<=s.asks.length)(i:aa=some ⟨g,0,none⟩/\c=1\/aa=some ⟨g,1,none⟩)(E:m+1=s.asks.length):
  kH wO (wr.setCell ⟨sb,0,none⟩ (.slice aa m (c-1))) rb sb a cap bs p aa (c-1) {s with asks:=s.asks.drop 1}:=by
 obtain⟨F,G,j,H,d⟩:=dD h.asks;simp only[Qm,true_and] at j;obtain⟨rfl,rfl⟩:=j;have k:Below wO.heap.size wr (wr.setCell ⟨sb,0,none⟩ (.slice aa m (c-1))):=(Below.refl _ _).setCell h.sbl _;obtain⟨I,t⟩:=h.rd0;have l:(s.asks.drop 1).length=m:=I9;have v:=h.box.asks (.slice aa m (c-1)) (s.asks.drop 1);rcases d with d|⟨b,J,K,n,w,x⟩
 .rw[d] at f;simp at f
 simp only[Ql,QS,and_true] at n;subst n;have y:oZ wr aa (s.asks.drop 1):=oZ.tail (b:=g) (o:=0) w (λz A=>by rw[Qb];exact x z A) (λB=>by
  rcases i with⟨_,e⟩|e
  .exact QK (QO (by rw[l];omega)) B
  .rw[Qb];exact e)
 refine⟨h.rd.below t k h.kb.size,h.kb.below k,h.sbl,by show dJ _ sb (.slice aa (s.asks.drop 1).length (c-1)) _ _;rw[l];exact v,y.same (h.box.row.same _) A8,by show (s.asks.drop 1).length<=c-1;omega,λe=>?_,r,⟨by show (s.asks.drop 1).length<=20;have:=h.tiny.asks;omega,λC D=>h.tiny.fA C (List.mem_of_mem_drop D),h.tiny.on,h.tiny.cases,h.tiny.dK,h.tiny.els,h.tiny.fall,h.tiny.give⟩⟩;rcases i with⟨q,_⟩|q<;>(rw[q] at e;cases e)
theorem KX :qY 106 400 20 60 700000:=by
 intro w p a r x b0 hR hp a9;have k0:K_ w (w.alloc (.cells #[J6] 25)):=ai _ _;have g0:Hid (Rd (w.alloc (.cells #[J6] 25)) p a r x b0):=hR.kept k0;have l8:=hR.row.lt;have b1:Hid (aH ((w.alloc (.cells #[J6] 25)).alloc (.cells #[J6] 25)) w.heap.size 25 1):=(aH.made w _ _).kept (ai _ _);have e2:=gK.made (mN:=20) g0.o g0.o (Xj.refl _ _ _);rw[Qh] at e2;have⟨e4,i7⟩:=aJ e2 hR;clear hR e2;go_enter func106,ntmps106
 go_wp2_with fail
 refine (aM _ p a r x b0 _ 9 rfl e4.o.rd A7 A7 a9).mono ?_;rintro J w1 ⟨v1,rfl,l9,g3,e5⟩;have g4:=Kz (e4.o.drawn g3 e5);have g5:=Kz (b1.o.but e5 A7);obtain⟨n1,i8⟩:∃n1:Nat,n1=3+v1:=⟨_,rfl⟩;clear g3 e5 e4 b1;go_wp2
 go_loopg [5] n1 λg H wr=>∃(k:Nat)(p':Nat)(v:QY)(a0:List Qz)(xs:List QY),H=.b (k:Int)/\k+g=n1/\a0.length=k/\b0<=p'/\p'<=b0+1+12*k/\aH wr w.heap.size 25 1/\gK 20 (w.alloc (.cells #[J6] 25)) wr p (w.heap.size+1) a r x p' v a0 xs
 case atStart=>exact⟨0,b0+1,_,[],[],rfl,A7,rfl,A7,A7,g5.o,g4.o⟩
 case round=>
  clear g4 g5;obtain⟨k,p7,v,a0,xs,rfl,hk,hL,m0,m1,g6,F⟩:=hrel;obtain⟨wO,rfl⟩:=aj wr;have⟨HO,j,b1⟩:=dC F hL g6;obtain⟨av,cv,rfl⟩:=aG F.own;clear F hL g6;by_cases m2:(k:Int)<3+(v1:Int)
  .obtain⟨qm,e6⟩:∃qm:Nat,qm= (k+1) % n1:=⟨_,rfl⟩;have i9:((k:Int)+1).tmod (3+(v1:Int))= (qm:Int):=by rw[Int.tmod_eq_emod_of_nonneg A7,e6,i8];push_cast;rfl
   have m3:qm<n1:=by rw[e6];exact Nat.mod_lt _ A7
   have j0:((3+(v1:Int)) == 0)=false:=by rw[beq_eq_false_iff_ne];omega
   clear e6;go_wp2_with fail
   refine (jZ _ qm _ C8 A7).mono ?_;rintro J b ⟨G,rfl,m4,k2⟩;have d3:=Kz (IU HO.o.rd k2 (x:=G) A7);have m5:=k2.size;clear k2 i9 j0;obtain⟨wS,e7⟩:=aj ((b.alloc (.cells #[.string G] 9)).alloc (.cells #[.c b.heap.size 1 1,.b 0,J6,.b 1,.b (-1),.bool false,.bool false,.string ⟨#[]⟩] 146));rw[<-e7] at d3;go_upto_region 7 with fail
   rw[<-e7];clear e7;go_wp2_with fail
   refine (aM _ p a r x p7 _ 3 rfl d3.o.rd A7 A7 a9).mono ?_;rintro J w3 ⟨v3,rfl,j1,g7,g8⟩;have d4:=Kz (d3.o.drawn g7 g8);clear g7 g8 d3;go_upto_if 26 with fail
   go_cut [6,7] from 26 to 42 λs6 _ wx=>∃(g b3:Nat)(s:Xq)(p':Nat),s6=.h (b.heap.size+1)/\p7<=p'/\p'<=p7+2/\1<=s.asks.length/\s.asks.length<=2/\s.cases=[]/\SSt wO wx p (b.heap.size+1) a r x p' (.c g s.asks.length b3) J6 s
   case first=>
    by_cases h3:v3=0
    .have e3:((v3:Int) == 0)=true:=by simp[h3]
     clear h3;go_wp2_with fail
     refine (aM _ p a r x (p7+1) _ n1 A7 d4.o.rd A7 A7 a9).mono ?_;rintro J w4 ⟨v4,rfl,m6,g9,h0⟩;have L:=Kz (d4.o.drawn g9 h0);clear g9 h0;go_wp2_with fail
     refine (jZ _ v4 _ rfl A7).mono ?_;rintro J w5 ⟨H,rfl,hx,h1⟩;have a1:=Kz (L.o.kept h1);clear h1 L;have y0:=a1.o.box.c0;have yz:=a1.o.box.row.lt;obtain⟨_,e8⟩:=a1.o.box.cell (o:=0) A7;have j2:=a1.o.asks.cells (g:=b.heap.size) rfl 0 _ rfl;have m7:b.heap.size<w5.heap.size:=A7;rw[Qo,Qp] at j2;cases j3:(H.toList == G.toList)
     .have m8:=j3;obtain⟨ia,j4,j5,j6,j7⟩:=aV Tryz.gV;have d5:Hid (K_ w5 (w5.alloc (.cells #[.string H] 9))):=ai _ _;have j8:=Kz (a1.o.kept d5.o).asks;have j9:wO.heap.size<=(w5.alloc (.cells #[.string H] 9)).heap.size:=(a1.o.kept d5.o).kb.size;go_wp2_with (at_builtin;refine wpList_append_lies _ rfl (.tmp 38) (.tmp 40) 26 rfl wO.heap.size 9 ia _ 1 16 underlying26 j4 j5 j6 j7 rfl A8 (.c b.heap.size 1 1) 1 [.string G] rfl j8.o ⟨w5.heap.size,0,none⟩ 1 1 [.string H] rfl rfl (lS w5 H) (lF H) A7 D6 A7 j9 _ rfl ?_;intro g c6 w6 h4 e9 _ _;have d6:=a1.o.vw d5.o e9;have y2:=d6.c0;have z2:=d6.row.lt;obtain⟨_,f2⟩:=d6.cell (o:=0) A7;have k1:=Kz h4;have k3:=Kz e9;clear h4 e9 d6)
      go_meet
      exact⟨g,c6,⟨[G,H],0,[],1, -1,false,false,⟨#[]⟩⟩,p7+2,rfl,A7,A7,by show 1<= [G,H].length;simp,by show [G,H].length<=2;simp,rfl,a1.o.qK (x:=H) d5.o k1.o k3.o (by show 1+1<=20;omega) A7⟩
     .go_wp2
      go_meet
      exact⟨b.heap.size,1,⟨[G],0,[],1, -1,false,false,⟨#[]⟩⟩,p7+2,rfl,A7,A7,by show 1<= [G].length;simp,by show [G].length<=2;simp,rfl,a1.o⟩
    .have e3:((v3:Int) == 0)=false:=by simpa using h3
     clear h3;go_wp2
     go_meet
     exact⟨b.heap.size,1,⟨[G],0,[],1, -1,false,false,⟨#[]⟩⟩,p7+1,rfl,A7,A7,by show 1<= [G].length;simp,by show [G].length<=2;simp,rfl,d4.o⟩
   case rest=>
    obtain⟨g,b3,s0,M,rfl,m9,n0,k4,k5,h6,F⟩:=hcut;have⟨HT,b4⟩:=aJ F h6;clear F h6 d4 j1;go_wp2_with fail
    refine (aM _ p a r x M _ 6 rfl HT.o.rd A7 A7 a9).mono ?_;rintro J w5 ⟨v5,rfl,k6,h7,h8⟩;have L:=Kz (HT.o.drawn h7 h8);clear h7 h8 HT;obtain⟨b2,hm⟩:∃b2,b2+1=s0.asks.length:=⟨s0.asks.length-1,A7⟩;have y0:=L.o.box.c0;have yz:=L.o.box.row.lt;obtain⟨_,e8⟩:=L.o.box.cell (o:=0) A7;rw[<-hm] at y0;have HM:=Kz hm;have k7:b2<=1:=A7;have k8:b2+1<=b3:=by have:=(L.o.ring b4.o).2.room;omega
    clear hm k4 k5;go_upto_if 45 with fail
    go_cut [6] from 43 to 49 λs6 wx=>∃(N:QW)(O:Nat)(s:Xq),s6=.h (b.heap.size+1)/\kH wO wx p (b.heap.size+1) a r x (M+1) N O s
    case first=>
     by_cases h5:v5=0
     .have k9:((v5:Int) == 0)=true:=by simp[h5]
      clear h5;have i1:(1:Int)<=(b2:Int)+1:=A7;have i2:(1:Int)<=(b3:Int):=A7;by_cases l0:b3=1
      .subst l0;obtain rfl:b2=0:=A7;go_wp2
       go_meet
       exact⟨_,_,_,rfl,L.o.tail b4.o (by have:=HM.o;omega) (.inl ⟨rfl,rfl⟩) HM.o⟩
      .go_wp2
       go_meet
       exact⟨_,_,_,rfl,L.o.tail b4.o (by have:=HM.o;omega) (.inr rfl) HM.o⟩
     .have k9:((v5:Int) == 0)=false:=by simpa using h5
      clear h5;go_wp2
      go_meet
      exact⟨_,_,s0,rfl,(L.o.ring b4.o).2⟩
    case rest=>
     clear L b4 y0 yz e8 HM k7 k8 k6;obtain⟨N,O,s,rfl,F⟩:=hcut;obtain⟨wA,rfl⟩:=aj wc;have HT:=Kz F;have d7:=Kz (HO.o.drawn F.rd F.kb);have d8:w.heap.size<p\/p+1<=w.heap.size:=A7;have f0:p<wO.heap.size:=HO.o.rd.row.lt;have h9:=Kz (b1.o.but F.kb d8);have y5:=d7.o.c0;rw[j.o] at y5;have l1:=d7.o.row.lt;have n2:=F.sbl;clear F HO b1;obtain⟨f1,f3,f4,f5,f6⟩:=aV Tryz.nV;have n:Hid (∀(v:QX)(p' q':Nat),gK 20 (w.alloc (.cells #[J6] 25)) v p (w.heap.size+1) a r x p' (.slice av a0.length cv) a0 xs->kH wO v p (b.heap.size+1) a r x q' N O s->(λ(v:QX)=>v.cell? ⟨w.heap.size+1,0,none⟩=some (.slice av k cv)/\v.cell? ⟨b.heap.size+1,0,none⟩=some (.slice N s.asks.length O)/\v.cell? ⟨b.heap.size+1,1,none⟩=some (.b s.on)/\v.cell? ⟨b.heap.size+1,2,none⟩=some J6/\v.cell? ⟨b.heap.size+1,3,none⟩=some (.b s.els)/\v.cell? ⟨b.heap.size+1,4,none⟩=some (.b s.fall)/\v.cell? ⟨b.heap.size+1,5,none⟩=some (.bool s.fin)/\v.cell? ⟨b.heap.size+1,6,none⟩=some (.bool s.bad)/\v.cell? ⟨b.heap.size+1,7,none⟩=some (.string s.give)) v):=λv p' q' l2 h2=>⟨by rw[<-j.o];exact l2.c0,h2.box.c0,h2.box.c1,h2.box.c2,h2.box.c3,h2.box.c4,h2.box.c5,h2.box.c6,h2.box.c7⟩
     have KD:K_ wA wA.drew:=a_ wA;have d9:=Kz (d7.o.kept KD);have b5:=Kz (HT.o.kept KD);have f7:=Kz (h9.o.kept KD);go_upto_region 13 with fail
     refine Qk.region C9 (λ(v:QX)=>v.cell? ⟨w.heap.size+1,0,none⟩=some (.slice av k cv)/\v.cell? ⟨b.heap.size+1,0,none⟩=some (.slice N s.asks.length O)/\v.cell? ⟨b.heap.size+1,1,none⟩=some (.b s.on)/\v.cell? ⟨b.heap.size+1,2,none⟩=some J6/\v.cell? ⟨b.heap.size+1,3,none⟩=some (.b s.els)/\v.cell? ⟨b.heap.size+1,4,none⟩=some (.b s.fall)/\v.cell? ⟨b.heap.size+1,5,none⟩=some (.bool s.fin)/\v.cell? ⟨b.heap.size+1,6,none⟩=some (.bool s.bad)/\v.cell? ⟨b.heap.size+1,7,none⟩=some (.string s.give)) 15 (n.o _ _ _ d9.o b5.o) λe=>?_;generalize l3:wA.drew=wd at e d9 b5 f7⊢;clear l3 KD d7 HT h9 y5 l1;refine ae 0 e ?_;refine ae 1 e ?_;refine ae 2 e ?_;refine ae 4 e ?_;refine ae 7 e ?_;refine ae 8 e ?_;refine iX 3 9 (λK c=>?_) λK c=>?_
     .rw[QI D8];go_simp
      go_at_call 68
      refine (jZ _ k _ rfl A7).mono ?_;rintro J wl ⟨m,rfl,l4,kl⟩;have P:=Kz (d9.o.kept kl);have a2:=Kz (b5.o.kept kl);have e0:=Kz (f7.o.kept kl)
      skip
      dsimp only;refine c.out _ _ (λ_=>n.o _ _ _ P.o a2.o) ?_;clear c K e;have e:=n.o _ _ _ P.o a2.o;try simp only[upP]
      refine iX 5 9 (λK c=>?_) λK c=>?_
      .rw[QI D8];go_simp
       go_at_call 10
       refine (aM _ p a r x (M+1) _ 4 rfl P.o.rd A7 A7 a9).mono ?_;rintro J Q ⟨f,rfl,i0,R,y⟩;have z:=Kz (P.o.drawn R y);have I:=Kz (a2.o.drawn f0 R y);have b6:=Kz (e0.o.but y d8)
       skip
       dsimp only;refine c.out _ _ (λ_=>n.o _ _ _ z.o I.o) ?_;clear c K e R y;have e:=n.o _ _ _ z.o I.o;try simp only[upP]
       have ew:IntKind.i64.wrap (1+(f:Int))=1+(f:Int):=E9;refine bZ 6 (.b (1+(f:Int))) e ?_ ?_
       .intro u hu;try dsimp only at hu
        go_simp
        try with_reducible rfl
       try simp only[upP]
       clear ew;refine au 9 λK c=>?_;go_simp
       obtain⟨S,T⟩:=aj Q.heap.size;obtain⟨wb,B⟩:=aj (Q.alloc (.cells #[.slice N s.asks.length O,.b s.on,J6,.b s.els,.b s.fall,.bool s.fin,.bool s.bad,.string s.give,J6,.b 0,J6,.b 0,.b 0,.bool true,.bool false,.string ⟨#[114]⟩] 146));have C:K_ Q wb:=by rw[B];exact ai _ _
       have U:=I.o.steps;rw[<-B,<-T] at U;have b7:=Kz U;have A:=Kz (z.o.kept C);have V:=Kz (I.o.kept C);have b8:=Kz (b6.o.kept C);rw[<-B,<-T];refine c.out _ _ (λ_=>n.o _ _ _ A.o V.o) ?_;clear c K e U B T C;have e:=n.o _ _ _ A.o V.o;try simp only[upP]
       refine ae 10 e ?_;refine ae 11 e ?_;refine au 12 λK c=>?_;go_simp
       have l:K_ wb (wb.alloc (.cells #[.string m,.b (1+(f:Int)),.c S 2 2] 64)):=ai _ _;have W:=Kz (A.o.kept l);have X:=Kz (V.o.kept l);refine af c (λ_=>n.o _ _ _ W.o X.o) ?_;clear c K e;refine au 13 λK c=>?_;have D:=W.o.own;rw[j.o] at D;have b9:=W.o.kb.size;have c8:Hid (Qz.TinyN 20 ⟨m,1+(f:Int),[s,bU ⟨#[114]⟩]⟩):=⟨by show m.size<=300;omega,by show -1000<=1+(f:Int)/\1+(f:Int)<=1000;omega,by show 2<=21;omega,λa3 hy=>Cj (p:=λa3=>a3.TinyN 20) hy X.o.tiny (jr (g:=⟨#[114]⟩) (show (1:Nat)<=300 by omega))⟩;refine step_append_lies _ rfl (.tmp 51) (.tmp 62) 23 rfl (w.alloc (.cells #[J6] 25)).heap.size 64 f1 _ 3 48 underlying23 f3 f4 f5 f6 rfl A8 (.slice av k cv) k xs E5 D ⟨wb.heap.size,0,none⟩ 1 1 [.string m,.b (1+(f:Int)),.c S 2 2] E5 rfl (og _ _ _ _) (oU _ _ _ _ _) A7 D6 A7 b9 _ rfl ?_;intro g a4 Y a5 E c9 i3;have q:=A.o.gB l (by rw[j.o];exact E);have y6:=q.1;rw[j.o] at y6;have i4:=q.2.lt;have i5:=(q.2.row.at (i:=0) A7).2;obtain⟨vo,i6⟩:=(q.2.row.at (i:=0) A7).1;have a6:=b7.o.same (u:=25) (.ak l) A8 A8 A8;have d0:Hid (gK 20 (w.alloc (.cells #[J6] 25)) (Y.setCell ⟨w.heap.size+1,0,none⟩ (.c g (k+1) a4)) p (w.heap.size+1) a r x (M+2) (.c g (k+1) a4) (a0++[⟨m,1+(f:Int),[s,bU ⟨#[114]⟩]⟩]) (xs++[.string m,.b (1+(f:Int)),.c S 2 2])):=
        A.o.push (d:=⟨m,1+(f:Int),[s,bU ⟨#[114]⟩]⟩) l a6 c8.o (by rw[j.o];exact a5) (by rw[j.o];exact E)
       have Z:=aB.aI D E;have d1:Hid (aH Y w.heap.size 25 1):=by
        obtain⟨a7,g1,g2⟩:=b8.o.kept l;exact⟨a7,Z _ a7 _ _ A8 g1,g2⟩
       have h:=X.o.box.same Z A8;have a8:(λ(v:QX)=>v.cell? ⟨w.heap.size+1,0,none⟩=some (.slice av k cv)/\v.cell? ⟨b.heap.size+1,0,none⟩=some (.slice N s.asks.length O)/\v.cell? ⟨b.heap.size+1,1,none⟩=some (.b s.on)/\v.cell? ⟨b.heap.size+1,2,none⟩=some J6/\v.cell? ⟨b.heap.size+1,3,none⟩=some (.b s.els)/\v.cell? ⟨b.heap.size+1,4,none⟩=some (.b s.fall)/\v.cell? ⟨b.heap.size+1,5,none⟩=some (.bool s.fin)/\v.cell? ⟨b.heap.size+1,6,none⟩=some (.bool s.bad)/\v.cell? ⟨b.heap.size+1,7,none⟩=some (.string s.give)) Y:=⟨y6,h.c0,h.c1,h.c2,h.c3,h.c4,h.c5,h.c6,h.c7⟩;clear q D a5 E c9 Z l a6 h;refine af c (λ_=>a8) ?_;clear c K;have e:=a8;refine ae 14 e ?_;refine au 15 λK c=>?_;go_simp
       refine af c (λd2=>QK rfl d2) ?_;clear c K;refine aF ?_;go_wp2
       go_roundg (gk-1)
       case rel=>exact⟨k+1,M+2,_,_,_,C8,A7,by rw[Qi,j.o];rfl,A7,A7,d1.o.block (Below.heap_setCell _ _ _ _ A9),d0.o⟩
       case measure=>omega
      .go_simp
       obtain⟨S,T⟩:=aj wl.heap.size;obtain⟨wb,B⟩:=aj (wl.alloc (.cells #[.slice N s.asks.length O,.b s.on,J6,.b s.els,.b s.fall,.bool s.fin,.bool s.bad,.string s.give,J6,.b 0,J6,.b 0,.b 0,.bool true,.bool false,.string ⟨#[114]⟩] 146));have C:K_ wl wb:=by rw[B];exact ai _ _
       have U:=a2.o.steps;rw[<-B,<-T] at U;have b7:=Kz U;have A:=Kz (P.o.kept C);have V:=Kz (a2.o.kept C);have b8:=Kz (e0.o.kept C);rw[<-B,<-T];refine c.out _ _ (λ_=>n.o _ _ _ A.o V.o) ?_;clear c K e U B T C;have e:=n.o _ _ _ A.o V.o;try simp only[upP]
       refine aD 5 λK c=>?_;go_simp
       go_at_call 10
       refine (aM _ p a r x (M+1) _ 4 rfl A.o.rd A7 A7 a9).mono ?_;rintro J Q ⟨f,rfl,i0,R,y⟩;have z:=Kz (A.o.drawn R y);have I:=Kz (V.o.drawn f0 R y);have b6:=Kz (b8.o.but y d8);have f8:=Kz (b7.o.same (y.sameKind A.o.rd) A8 A8 A8);dsimp only;refine c.out _ _ (λ_=>n.o _ _ _ z.o I.o) ?_;clear c K e R y;have e:=n.o _ _ _ z.o I.o;try simp only[upP]
       have ew:IntKind.i64.wrap (1+(f:Int))=1+(f:Int):=E9;refine bZ 6 (.b (1+(f:Int))) e ?_ ?_
       .intro u hu;try dsimp only at hu
        go_simp
        try with_reducible rfl
       try simp only[upP]
       clear ew;refine ae 10 e ?_;refine ae 11 e ?_;refine au 12 λK c=>?_;go_simp
       have l:K_ Q (Q.alloc (.cells #[.string m,.b (1+(f:Int)),.c S 2 2] 64)):=ai _ _;have W:=Kz (z.o.kept l);have X:=Kz (I.o.kept l);refine af c (λ_=>n.o _ _ _ W.o X.o) ?_;clear c K e;refine au 13 λK c=>?_;have D:=W.o.own;rw[j.o] at D;have b9:=W.o.kb.size;have c8:Hid (Qz.TinyN 20 ⟨m,1+(f:Int),[s,bU ⟨#[114]⟩]⟩):=⟨by show m.size<=300;omega,by show -1000<=1+(f:Int)/\1+(f:Int)<=1000;omega,by show 2<=21;omega,λa3 hy=>Cj (p:=λa3=>a3.TinyN 20) hy X.o.tiny (jr (g:=⟨#[114]⟩) (show (1:Nat)<=300 by omega))⟩;refine step_append_lies _ rfl (.tmp 51) (.tmp 62) 23 rfl (w.alloc (.cells #[J6] 25)).heap.size 64 f1 _ 3 48 underlying23 f3 f4 f5 f6 rfl A8 (.slice av k cv) k xs E5 D ⟨Q.heap.size,0,none⟩ 1 1 [.string m,.b (1+(f:Int)),.c S 2 2] E5 rfl (og _ _ _ _) (oU _ _ _ _ _) A7 D6 A7 b9 _ rfl ?_;intro g a4 Y a5 E c9 i3;have q:=z.o.gB l (by rw[j.o];exact E);have y6:=q.1;rw[j.o] at y6;have i4:=q.2.lt;have i5:=(q.2.row.at (i:=0) A7).2;obtain⟨vo,i6⟩:=(q.2.row.at (i:=0) A7).1;have a6:=f8.o.same (u:=25) (.ak l) A8 A8 A8;have d0:Hid (gK 20 (w.alloc (.cells #[J6] 25)) (Y.setCell ⟨w.heap.size+1,0,none⟩ (.c g (k+1) a4)) p (w.heap.size+1) a r x (M+2) (.c g (k+1) a4) (a0++[⟨m,1+(f:Int),[s,bU ⟨#[114]⟩]⟩]) (xs++[.string m,.b (1+(f:Int)),.c S 2 2])):=
        z.o.push (d:=⟨m,1+(f:Int),[s,bU ⟨#[114]⟩]⟩) l a6 c8.o (by rw[j.o];exact a5) (by rw[j.o];exact E)
       have Z:=aB.aI D E;have d1:Hid (aH Y w.heap.size 25 1):=by
        obtain⟨a7,g1,g2⟩:=b6.o.kept l;exact⟨a7,Z _ a7 _ _ A8 g1,g2⟩
       have h:=X.o.box.same Z A8;have a8:(λ(v:QX)=>v.cell? ⟨w.heap.size+1,0,none⟩=some (.slice av k cv)/\v.cell? ⟨b.heap.size+1,0,none⟩=some (.slice N s.asks.length O)/\v.cell? ⟨b.heap.size+1,1,none⟩=some (.b s.on)/\v.cell? ⟨b.heap.size+1,2,none⟩=some J6/\v.cell? ⟨b.heap.size+1,3,none⟩=some (.b s.els)/\v.cell? ⟨b.heap.size+1,4,none⟩=some (.b s.fall)/\v.cell? ⟨b.heap.size+1,5,none⟩=some (.bool s.fin)/\v.cell? ⟨b.heap.size+1,6,none⟩=some (.bool s.bad)/\v.cell? ⟨b.heap.size+1,7,none⟩=some (.string s.give)) Y:=⟨y6,h.c0,h.c1,h.c2,h.c3,h.c4,h.c5,h.c6,h.c7⟩;clear q D a5 E c9 Z l a6 h;refine af c (λ_=>a8) ?_;clear c K;have e:=a8;refine ae 14 e ?_;refine au 15 λK c=>?_;go_simp
       refine af c (λd2=>QK rfl d2) ?_;clear c K;refine aF ?_;go_wp2
       go_roundg (gk-1)
       case rel=>exact⟨k+1,M+2,_,_,_,C8,A7,by rw[Qi,j.o];rfl,A7,A7,d1.o.block (Below.heap_setCell _ _ _ _ A9),d0.o⟩
       case measure=>omega
     .go_simp
      obtain⟨S,T⟩:=aj wd.heap.size;obtain⟨wb,B⟩:=aj (wd.alloc (.cells #[.slice N s.asks.length O,.b s.on,J6,.b s.els,.b s.fall,.bool s.fin,.bool s.bad,.string s.give,J6,.b 0,J6,.b 0,.b 0,.bool true,.bool false,.string ⟨#[114]⟩] 146));have C:K_ wd wb:=by rw[B];exact ai _ _
      have U:=b5.o.steps;rw[<-B,<-T] at U;have b7:=Kz U;have A:=Kz (d9.o.kept C);have V:=Kz (b5.o.kept C);have b8:=Kz (f7.o.kept C);rw[<-B,<-T];refine c.out _ _ (λ_=>n.o _ _ _ A.o V.o) ?_;clear c K e U B T C;have e:=n.o _ _ _ A.o V.o;try simp only[upP]
      refine aD 3 λK c=>?_;go_simp
      go_at_call 68
      refine (jZ _ k _ rfl A7).mono ?_;rintro J wl ⟨m,rfl,l4,kl⟩;have P:=Kz (A.o.kept kl);have a2:=Kz (V.o.kept kl);have e0:=Kz (b8.o.kept kl);have l5:=Kz (b7.o.same (u:=25) (.ak kl) A8 A8 A8);dsimp only;refine c.out _ _ (λ_=>n.o _ _ _ P.o a2.o) ?_;clear c K e;have e:=n.o _ _ _ P.o a2.o;try simp only[upP]
      refine aD 5 λK c=>?_;go_simp
      go_at_call 10
      refine (aM _ p a r x (M+1) _ 4 rfl P.o.rd A7 A7 a9).mono ?_;rintro J Q ⟨f,rfl,i0,R,y⟩;have z:=Kz (P.o.drawn R y);have I:=Kz (a2.o.drawn f0 R y);have b6:=Kz (e0.o.but y d8);have f8:=Kz (l5.o.same (y.sameKind P.o.rd) A8 A8 A8);dsimp only;refine c.out _ _ (λ_=>n.o _ _ _ z.o I.o) ?_;clear c K e R y;have e:=n.o _ _ _ z.o I.o;try simp only[upP]
      have ew:IntKind.i64.wrap (1+(f:Int))=1+(f:Int):=E9;refine bZ 6 (.b (1+(f:Int))) e ?_ ?_
      .intro u hu;try dsimp only at hu
       go_simp
       try with_reducible rfl
      try simp only[upP]
      clear ew;refine ae 10 e ?_;refine ae 11 e ?_;refine au 12 λK c=>?_;go_simp
      have l:K_ Q (Q.alloc (.cells #[.string m,.b (1+(f:Int)),.c S 2 2] 64)):=ai _ _;have W:=Kz (z.o.kept l);have X:=Kz (I.o.kept l);refine af c (λ_=>n.o _ _ _ W.o X.o) ?_;clear c K e;refine au 13 λK c=>?_;have D:=W.o.own;rw[j.o] at D;have b9:=W.o.kb.size;have c8:Hid (Qz.TinyN 20 ⟨m,1+(f:Int),[s,bU ⟨#[114]⟩]⟩):=⟨by show m.size<=300;omega,by show -1000<=1+(f:Int)/\1+(f:Int)<=1000;omega,by show 2<=21;omega,λa3 hy=>Cj (p:=λa3=>a3.TinyN 20) hy X.o.tiny (jr (g:=⟨#[114]⟩) (show (1:Nat)<=300 by omega))⟩;refine step_append_lies _ rfl (.tmp 51) (.tmp 62) 23 rfl (w.alloc (.cells #[J6] 25)).heap.size 64 f1 _ 3 48 underlying23 f3 f4 f5 f6 rfl A8 (.slice av k cv) k xs E5 D ⟨Q.heap.size,0,none⟩ 1 1 [.string m,.b (1+(f:Int)),.c S 2 2] E5 rfl (og _ _ _ _) (oU _ _ _ _ _) A7 D6 A7 b9 _ rfl ?_;intro g a4 Y a5 E c9 i3;have q:=z.o.gB l (by rw[j.o];exact E);have y6:=q.1;rw[j.o] at y6;have i4:=q.2.lt;have i5:=(q.2.row.at (i:=0) A7).2;obtain⟨vo,i6⟩:=(q.2.row.at (i:=0) A7).1;have a6:=f8.o.same (u:=25) (.ak l) A8 A8 A8;have d0:Hid (gK 20 (w.alloc (.cells #[J6] 25)) (Y.setCell ⟨w.heap.size+1,0,none⟩ (.c g (k+1) a4)) p (w.heap.size+1) a r x (M+2) (.c g (k+1) a4) (a0++[⟨m,1+(f:Int),[s,bU ⟨#[114]⟩]⟩]) (xs++[.string m,.b (1+(f:Int)),.c S 2 2])):=
       z.o.push (d:=⟨m,1+(f:Int),[s,bU ⟨#[114]⟩]⟩) l a6 c8.o (by rw[j.o];exact a5) (by rw[j.o];exact E)
      have Z:=aB.aI D E;have d1:Hid (aH Y w.heap.size 25 1):=by
       obtain⟨a7,g1,g2⟩:=b6.o.kept l;exact⟨a7,Z _ a7 _ _ A8 g1,g2⟩
      have h:=X.o.box.same Z A8;have a8:(λ(v:QX)=>v.cell? ⟨w.heap.size+1,0,none⟩=some (.slice av k cv)/\v.cell? ⟨b.heap.size+1,0,none⟩=some (.slice N s.asks.length O)/\v.cell? ⟨b.heap.size+1,1,none⟩=some (.b s.on)/\v.cell? ⟨b.heap.size+1,2,none⟩=some J6/\v.cell? ⟨b.heap.size+1,3,none⟩=some (.b s.els)/\v.cell? ⟨b.heap.size+1,4,none⟩=some (.b s.fall)/\v.cell? ⟨b.heap.size+1,5,none⟩=some (.bool s.fin)/\v.cell? ⟨b.heap.size+1,6,none⟩=some (.bool s.bad)/\v.cell? ⟨b.heap.size+1,7,none⟩=some (.string s.give)) Y:=⟨y6,h.c0,h.c1,h.c2,h.c3,h.c4,h.c5,h.c6,h.c7⟩;clear q D a5 E c9 Z l a6 h;refine af c (λ_=>a8) ?_;clear c K;have e:=a8;refine ae 14 e ?_;refine au 15 λK c=>?_;go_simp
      refine af c (λd2=>QK rfl d2) ?_;clear c K;refine aF ?_;go_wp2
      go_roundg (gk-1)
      case rel=>exact⟨k+1,M+2,_,_,_,C8,A7,by rw[Qi,j.o];rfl,A7,A7,d1.o.block (Below.heap_setCell _ _ _ _ A9),d0.o⟩
      case measure=>omega
  .have y0:=HO.o.c0;rw[j.o] at y0;have zb:=HO.o.row.lt;have hG:=HO.o.web;rw[j.o] at hG;have f9:=vQ wO av cv a0 (mN:=20) A7 (by have:=j.o;omega) HO.o.tiny (by rw[j.o];exact hG);rw[j.o] at f9;have l6:=Kz f9;clear hG f9;go_wp2_with fail
   refine l6.o.mono ?_;intro J w6 hs;obtain⟨va,vn,vc,rfl,e1,hD⟩:=HO.o.sorted (p:=b0) (t:=400) hs b1.o (Pw _) k0 i7.o A7 A7;have⟨HD,l7⟩:=aJ hD e1;have z6:=e1.lt;obtain⟨⟨_,u0⟩,e8⟩:=e1.row.at (i:=0) A7;clear hD e1 hs;go_wp2
   have hR:=PD w6 w.heap.size 0 [.slice va vn vc] (l7.o.row.there (o:=0) (m:=1) (Pw _));exact Zx [.slice va vn vc] _ results106 rfl hR underlying25 rfl Tryz.iI rfl HD.o
theorem Ll :qY 107 400 20 60 700000:=by
 intro w l a C D H T hp Z;have k0:K_ w (w.alloc (.cells #[J6] 25)):=ai _ _;have d5:Hid (Rd (w.alloc (.cells #[J6] 25)) l a C D H):=T.kept k0;have j5:=T.row.lt;have Q:Hid (aH ((w.alloc (.cells #[J6] 25)).alloc (.cells #[J6] 25)) w.heap.size 25 1):=(aH.made w _ _).kept (ai _ _);have b7:=gK.made (mN:=20) d5.o d5.o (Xj.refl _ _ _);rw[Qh] at b7;have⟨b8,g6⟩:=aJ b7 T;clear T b7;go_enter func107,ntmps107
 go_wp2_with fail
 refine (aM _ l a C D H _ 14 rfl b8.o.rd A7 A7 Z).mono ?_;rintro e w1 ⟨v1,rfl,j6,d6,b9⟩;have d7:=Kz (b8.o.drawn d6 b9);have d8:=Kz (Q.o.but b9 A7);obtain⟨n1,j7⟩:∃n1:Nat,n1=12+v1:=⟨_,rfl⟩;clear d6 b9 b8 Q;go_wp2
 go_loopg [5] n1 λg x wr=>∃(k:Nat)(p':Nat)(v:QY)(a0:List Qz)(xs:List QY),x=.b (k:Int)/\k+g=n1/\a0.length=k/\H<=p'/\p'<=H+1+12*k/\aH wr w.heap.size 25 1/\gK 20 (w.alloc (.cells #[J6] 25)) wr l (w.heap.size+1) a C D p' v a0 xs
 case atStart=>exact⟨0,H+1,_,[],[],rfl,A7,rfl,A7,A7,d8.o,d7.o⟩
 case round=>
  clear d7 d8;obtain⟨k,p7,v,a0,xs,rfl,hk,hL,j8,j9,d9,f⟩:=hrel;obtain⟨wO,rfl⟩:=aj wr;obtain⟨gO,rfl⟩:=aj gk;have⟨I,n,Q⟩:=dC f hL d9;obtain⟨av,cv,rfl⟩:=aG f.own;clear f hL d9;by_cases k1:(k:Int)<12+(v1:Int)
  .go_wp2_with fail
   refine (aM _ l a C D p7 _ 9 rfl I.o.rd A7 A7 Z).mono ?_;rintro e J ⟨j,rfl,k2,e0,e1⟩;have c3:=Kz (ASt.made I.o.rd e0 e1 (1+(j:Int)));clear e0 e1;go_wp2_with fail
   refine (aM _ l a C D (p7+1) _ 3 rfl c3.o.rd A7 A7 Z).mono ?_;rintro e w3 ⟨a2,rfl,hq,e2,e3⟩;have e4:=Kz (c3.o.drawn e2 e3);clear e2 e3 c3;go_wp2
   go_loopg [7] a2 λg x wr=>∃(p':Nat)(v:QY)(c:List Xq)(ys:List QY),x=.b (g:Int)/\g<=a2/\H<=p'/\p'+5*g<=p7+2+5*a2/\c.length+g<=a2/\ASt wO wr l J.heap.size a C D p' (1+(j:Int)) v c ys
   case atStart=>exact⟨p7+2,_,[],[],rfl,Pw _,A7,A7,A9,e4.o⟩
   case round=>
    clear e4;obtain⟨p8,vs,c,ys,rfl,k3,k4,k5,k7,f⟩:=hrel;obtain⟨K,rfl⟩:=aj wr;obtain⟨gI,rfl⟩:=aj gk;have L:=Kz f;obtain⟨sv,sc,rfl⟩:=aG f.own;have a1:=f.c1;have az:=f.row.lt;clear f;by_cases g7:(0:Int)<(gI:Int)
    .have g8:c.length<=3:=A7;have c4:=Kz (SSt.made L.o.rd (els:=(c.length:Int)+1) (fall:= -1) A7 A7);go_wp2_with fail
     refine (aM _ l a C D p8 _ 4 rfl c4.o.rd A7 A7 Z).mono ?_;rintro e w4 ⟨q2,rfl,k8,e5,e6⟩;have e7:=Kz (c4.o.drawn e5 e6);clear e5 e6 c4;go_wp2
     go_loopg [9] (1+q2) λg x wr=>∃(va:QY)(s:Xq)(p':Nat),x=.b (g:Int)/\g<=1+q2/\H<=p'/\p'+g<=p8+2+q2/\s.asks.length+g<=4/\s.cases=[]/\SSt K wr l K.heap.size a C D p' va J6 s
     case atStart=>exact⟨_,_,p8+1,C8,Pw _,A7,A7,by show 0+(1+q2)<=4;omega,rfl,e7.o⟩
     case round=>
      clear e7;obtain⟨va,s,p9,rfl,k9,l0,l1,l2,e8,f⟩:=hrel;have⟨M,f0⟩:=aJ f e8;clear f e8;go_upto_region 12 with fail
      go_cut [43] from 38 to 43 λg9 wx=>∃b:Bool,g9=.bool b/\wx=wr/\(b=true->0<gk/\0<k)
      case first=>
       by_cases l3:(0:Int)<(gk:Int)
       .by_cases h2:(0:Int)<(k:Int)
        .go_wp2
         go_meet
         exact⟨_,rfl,rfl,λ_=>⟨A7,A7⟩⟩
        .go_wp2
         go_meet
         exact⟨_,rfl,rfl,λa3=>by simp at a3;omega⟩
       .go_wp2
        go_meet
        exact⟨false,rfl,rfl,λa3=>by cases a3⟩
      case rest=>
       obtain⟨b,rfl,rfl,hb⟩:=hcut;have HB:=Kz hb;clear hb;cases b
       .obtain⟨wJ,rfl⟩:=aj wc;have U:=Kz (L.o.drawn M.o.rd M.o.kb);obtain⟨aa,ca,a5,a6,rfl,f1,hT⟩:=M.o.cells;have p:=Kz M.o;rw[f1] at p;have HT:=Kz hT;clear hT f1 M;have c0:=p.o.box.c0;have c1:=p.o.box.c1;have c2:=p.o.box.c2;have l4:=p.o.box.c3;have l5:=p.o.box.c4;have c5:=p.o.box.c5;have l6:=p.o.box.c6;have l7:=p.o.box.c7;have cz:=p.o.box.row.lt;have b1:=U.o.c1;have bz:=U.o.row.lt;have h:Hid (K_ wJ (wJ.alloc (.cells #[.slice aa s.asks.length ca,.b s.on,.slice a5 s.cases.length a6,.b s.els,.b s.fall,.bool s.fin,.bool s.bad,.string s.give] 146))):=ai _ _;have V:=Kz (U.o.kept h.o).own;have a7:=Kz (U.o.kept h.o).kb.size;have a8:=Kz (Ho wJ #[.slice aa s.asks.length ca,.b s.on,.slice a5 s.cases.length a6,.b s.els,.b s.fall,.bool s.fin,.bool s.bad,.string s.give]);obtain⟨ic,c6,c7,c8,d0⟩:=aV Tryz.lu;go_wp2_with (at_builtin;refine wpList_append_own _ rfl (.tmp 62) (.tmp 64) 60 rfl wO.heap.size 146 ic _ 8 96 underlying60 c6 c7 c8 d0 rfl A8 (.slice sv c.length sc) c.length ys rfl V.o ⟨wJ.heap.size,0,none⟩ 1 1 (s.cells aa ca a5 a6) rfl rfl a8.o (jQ s aa ca a5 a6) D6 A7 a7.o ?_;intro v' w5 r y _;have q:=U.o.gB h.o y;have z2:=q.2.lt;obtain⟨⟨_,y2⟩,f2⟩:=q.2.row.at (i:=1) A7;have W:=Kz r;obtain⟨N,O,rfl⟩:=aG r;have X:=Kz y;clear r y q)
        go_roundg (gI-1)
        case measure=>omega
        case rel=>exact⟨p9,_,c++[s],_,C8,A7,A7,A7,by rw[Qi];show c.length+1+(gI-1)<=a2;omega,U.o.push h.o HT.o p.o.tiny (p.o.pM rfl rfl) W.o X.o⟩
       .obtain⟨l8,l9⟩:=HB.o rfl;obtain⟨wJ,rfl⟩:=aj wc;go_wp2_with fail
        refine (qD _ l a C D p9 k M.o.rd A7 A7 Z).mono ?_;rintro e w5 ⟨v5,rfl,m0,f3,f4⟩;have f5:=Kz (M.o.drawn f3 f4);clear f3 f4 M;go_wp2_with fail
        refine (jZ _ v5 _ rfl A7).mono ?_;rintro e G ⟨x,rfl,hx,k6⟩;have z:=Kz (f5.o.kept k6);clear k6 f5;obtain⟨d1,f6,rfl⟩:=aG z.o.asks;have y0:=z.o.box.c0;have yz:=z.o.box.row.lt;obtain⟨_,h0⟩:=z.o.box.cell (o:=0) A7;have m1:s.asks.length<=20:=z.o.tiny.asks;have h1:Hid (Strs G d1 s.asks):=by
         obtain⟨a9,c9,e9,_,hT⟩:=dD z.o.asks;simp only[Qm] at e9;obtain⟨rfl,_,rfl⟩:=e9;exact hT.strs
        go_wp2_with fail
        refine (uI _ d1 f6 s.asks x A7 h1.o).mono ?_;rintro e w7 ⟨⟨r7,rfl,_⟩,rfl⟩;cases r7
        .obtain⟨ia,h3,h4,h5,h6⟩:=aV Tryz.gV;have h:Hid (K_ w7 (w7.alloc (.cells #[.string x] 9))):=ai _ _;have V:=Kz (z.o.kept h.o).asks;have h7:K.heap.size<=(w7.alloc (.cells #[.string x] 9)).heap.size:=(z.o.kept h.o).kb.size;go_wp2_with (at_builtin;refine wpList_append_own _ rfl (.tmp 56) (.tmp 58) 26 rfl K.heap.size 9 ia _ 1 16 underlying26 h3 h4 h5 h6 rfl A8 (.slice d1 s.asks.length f6) s.asks.length (s.asks.map Value.string) rfl V.o ⟨w7.heap.size,0,none⟩ 1 1 [.string x] rfl rfl (lS w7 x) (lF x) D6 A7 h7 ?_;intro v' w8 r y _;have q:=z.o.vw h.o y;have y2:=q.c0;have z2:=q.row.lt;obtain⟨_,f2⟩:=q.cell (o:=0) A7;have W:=Kz r;obtain⟨m2,m3,rfl⟩:=aG r;have X:=Kz y;clear r y q)
         .rename_i hfz
          rw[f2] at hfz;cases hfz
         go_roundg (gk-1)
         case measure=>omega
         case rel=>exact⟨_,{s with asks:=s.asks++[x]},p9+1,C8,A7,A7,A7,by show (s.asks++[x]).length+(gk-1)<=4;rw[Qi];show s.asks.length+1+(gk-1)<=4;omega,f0.o,z.o.qK h.o W.o X.o A7 A7⟩
        .go_wp2
         go_roundg (gk-1)
         case measure=>omega
         case rel=>exact⟨_,s,p9+1,C8,A7,A7,A7,A7,f0.o,z.o⟩
    .have m4:¬(0:Int)<(gI:Int):=g7;have g8:c.length<=3:=A7;obtain⟨ic,c6,c7,c8,d0⟩:=aV Tryz.lu;have h:Hid (K_ K (K.alloc (.cells #[J6,.b 0,J6,.b 0,.b 0,.bool true,.bool false,.string ⟨#[119]⟩] 146))):=ai _ _;have V:=Kz (L.o.kept h.o).own;have a7:=Kz (L.o.kept h.o).kb.size;have a8:=Kz (Ho K #[J6,.b 0,J6,.b 0,.b 0,.bool true,.bool false,.string ⟨#[119]⟩]);have h8:=Kz L.o;go_upto_region 19 with (at_builtin;refine wpList_append_own _ rfl (.tmp 68) (.tmp 70) 60 rfl wO.heap.size 146 ic _ 8 96 underlying60 c6 c7 c8 d0 rfl A8 (.slice sv c.length sc) c.length ys rfl V.o ⟨K.heap.size,0,none⟩ 1 1 ((bU ⟨#[119]⟩).cells none 0 none 0) rfl rfl a8.o (jQ (bU ⟨#[119]⟩) none 0 none 0) D6 A7 a7.o ?_;intro v' w5 r y _;have q:=L.o.gB h.o y;have z2:=q.2.lt;obtain⟨⟨_,y2⟩,f2⟩:=q.2.row.at (i:=1) A7;have W:=Kz r;obtain⟨N,O,rfl⟩:=aG r;have X:=Kz y;clear r y q)
     have A:=L.o.push h.o (uV _ ⟨#[119]⟩) (jr (show (1:Nat)<=300 by omega)) (qg _) W.o X.o;have b0:(c++[bU ⟨#[119]⟩]).length=c.length+1:=A9;obtain⟨LT,f7⟩:=aj (c++[bU ⟨#[119]⟩]);rw[<-f7] at A b0;obtain⟨P,f8⟩:=aj (c.length+1);rw[<-f8] at A b0⊢;obtain⟨wA,f9⟩:=aj (w5.setCell ⟨J.heap.size,1,none⟩ (.slice N P O));rw[<-f9] at A⊢;have⟨d2,h9⟩:=aJ A b0;have m5:P<=4:=A7;have Y:=Kz (I.o.drawn A.rd A.kb);have i0:w.heap.size<l\/l+1<=w.heap.size:=A7;have i1:=Kz (Q.o.but A.kb i0);have q0:=A.c0;have q1:=A.c1;have qz:=A.row.lt;have y5:=Y.o.c0;rw[n.o] at y5;have i2:=Y.o.row.lt;have m6:w.heap.size≠w.heap.size+1:=A7;clear f7 f8 b0 f9 A W X V a8 a7 h L h8 a1 az z2 y2 f2 Q;obtain⟨i3,i4,i5,i6,i7⟩:=aV Tryz.nV;have b2:Hid (∀v:QX,K_ wA v->(λ(v:QX)=>v.cell? ⟨w.heap.size+1,0,none⟩=some (.slice av k cv)/\v.cell? ⟨J.heap.size,0,none⟩=some (.b (1+(j:Int)))/\v.cell? ⟨J.heap.size,1,none⟩=some (.slice N P O)) v):=λv kk=>⟨(kk.cell i2).trans y5,(kk.cell qz).trans q0,(kk.cell qz).trans q1⟩
     refine Qk.region C9 (λ(v:QX)=>v.cell? ⟨w.heap.size+1,0,none⟩=some (.slice av k cv)/\v.cell? ⟨J.heap.size,0,none⟩=some (.b (1+(j:Int)))/\v.cell? ⟨J.heap.size,1,none⟩=some (.slice N P O)) 9 ⟨y5,q0,q1⟩ λE=>?_;refine ae 0 E ?_;refine ae 1 E ?_;refine ae 2 E ?_;refine ae 4 E ?_;refine aD 3 λR B=>?_;go_simp
     go_at_call 68
     refine (jZ _ k _ rfl A7).mono ?_;rintro e G ⟨S,rfl,m7,k6⟩;have K6:K_ wA G:=(a_ _).trans k6;dsimp only;refine B.out _ _ (λ_=>b2.o G K6) ?_;clear B R E k6;have E:=b2.o G K6;try simp only[upP]
     refine ae 5 E ?_;refine au 6 λR B=>?_;go_simp
     have F:K_ wA (G.alloc (.cells #[.string S,.b (1+(j:Int)),.slice N P O] 64)):=K6.alloc _;refine af B (λ_=>b2.o _ F) ?_;clear B R E;refine au 7 λR B=>?_;have b3:=(Y.o.kept F).own;rw[n.o] at b3;have i8:=(Y.o.kept F).kb.size;have i9:Hid (Qz.TinyN 20 ⟨S,1+(j:Int),LT⟩):=⟨by show S.size<=300;omega,by show -1000<=1+(j:Int)/\1+(j:Int)<=1000;omega,by show LT.length<=21;have:=h9.o;omega,d2.o.tiny⟩;refine step_append_lies _ rfl (.tmp 74) (.tmp 79) 23 rfl (w.alloc (.cells #[J6] 25)).heap.size 64 i3 _ 3 48 underlying23 i4 i5 i6 i7 rfl A8 (.slice av k cv) k xs E5 b3 ⟨G.heap.size,0,none⟩ 1 1 [.string S,.b (1+(j:Int)),.slice N P O] E5 rfl (og _ _ _ _) (oU _ _ _ _ _) A7 D6 A7 i8 _ rfl ?_;intro g g0 w8 g2 b4 j0 m8;have a4:=Y.o.gB F (by rw[n.o];exact b4);have y6:=a4.1;rw[n.o] at y6;have m9:=a4.2.lt;have n0:=(a4.2.row.at (i:=0) A7).2;obtain⟨vo,n2⟩:=(a4.2.row.at (i:=0) A7).1;have g3:=d2.o.g.same (u:=25) (.ak F) A8 A8 A8;have j1:Hid (gK 20 (w.alloc (.cells #[J6] 25)) (w8.setCell ⟨w.heap.size+1,0,none⟩ (.c g (k+1) g0)) l (w.heap.size+1) a C D p8 (.c g (k+1) g0) (a0++[⟨S,1+(j:Int),LT⟩]) (xs++[.string S,.b (1+(j:Int)),.slice N P O])):=
      Y.o.push (d:=⟨S,1+(j:Int),LT⟩) F g3 i9.o (by rw[n.o];exact g2) (by rw[n.o];exact b4)
     have d3:=aB.aI b3 b4;have j2:Hid (aH w8 w.heap.size 25 1):=by
      obtain⟨b5,g1,g4⟩:=i1.o.kept F;exact⟨b5,d3 _ b5 _ _ A8 g1,g4⟩
     have g5:(λ(v:QX)=>v.cell? ⟨w.heap.size+1,0,none⟩=some (.slice av k cv)/\v.cell? ⟨J.heap.size,0,none⟩=some (.b (1+(j:Int)))/\v.cell? ⟨J.heap.size,1,none⟩=some (.slice N P O)) w8:=by
      obtain⟨b5,g1,g4⟩:=d2.o.row.kept F;have hb:=d3 _ b5 _ _ A8 g1;have f:=b2.o _ F;exact⟨y6,by rw[PO (hb.trans g1.symm)];exact f.2.1,by rw[PO (hb.trans g1.symm)];exact f.2.2⟩
     clear a4 b3 g2 b4 j0 d3 F g3;refine af B (λ_=>g5) ?_;clear B R;have E:=g5;refine ae 8 E ?_;refine au 9 λR B=>?_;go_simp
     refine af B (λa3=>QK rfl a3) ?_;clear B R;refine aF ?_;go_wp2
     go_roundg (gO-1)
     case rel=>exact⟨k+1,p8,_,_,_,C8,A7,by rw[Qi,n.o];rfl,A7,A7,j2.o.block (Below.heap_setCell _ _ _ _ A9),j1.o⟩
     case measure=>omega
  .have y0:=I.o.c0;rw[n.o] at y0;have zb:=I.o.row.lt;have hG:=I.o.web;rw[n.o] at hG;have d4:=vQ wO av cv a0 (mN:=20) A7 (by have:=n.o;omega) I.o.tiny (by rw[n.o];exact hG);rw[n.o] at d4;have⟨j3,n3⟩:=aJ d4 Q.o;clear hG d4;go_wp2_with fail
   refine j3.o.mono ?_;intro e G hs;obtain⟨va,vn,vc,rfl,b6,hD⟩:=I.o.sorted (p:=H) (t:=400) hs Q.o (Pw _) k0 g6.o A7 A7;have⟨HD,j4⟩:=aJ hD b6;have z6:=b6.lt;obtain⟨⟨_,u0⟩,h0⟩:=b6.row.at (i:=0) A7;clear hD b6 hs;go_wp2
   have T:=PD G w.heap.size 0 [.slice va vn vc] (j4.o.row.there (o:=0) (m:=1) (Pw _));exact Zx [.slice va vn vc] _ results107 rfl T underlying25 rfl Tryz.iI rfl HD.o
theorem jP.rbl(h:jP m w wr rb wb a cap bs p v L):rb<w.heap.size:=let ⟨_,h0⟩:=h.rd0;h0.row.lt
theorem jP.drawn{p':Nat}(h:jP m w wr rb wb a cap bs p v L)(c:Rd w' rb a cap bs p')(k:Xj rb (rb+1) wr w'):jP m w w' rb wb a cap bs p' v L:=by
 have d:=k.sameKind h.rd;have:=h.rbl;have:=h.wbl;exact⟨c,h.rd0,h.wbl,h.kb.trans k,h.row.but k A7,(k.cell h.row.lt A7).trans h.c0,h.web.same d A8 A8 A8 A8,h.tiny,h.fr⟩
theorem jI.mono{M M' N':Nat}{t:Nat}{e:Ending}(h:jI M N w w' rb a cap bs p t e)(b:M<=M')(n:N<=N'):jI M' N' w w' rb a cap bs p t e:=by
 obtain⟨v,L,c,d,f,i,q,j,k⟩:=h;exact⟨v,L,c,d,f,i,A7,λl m=>(j l m).mono b,k⟩
theorem jP.made{M:Nat}{w1:QX}{e f:Nat}(i:Rd A0 rb a cap bs e)(j:Rd w1 rb a cap bs f)(h:Xj rb (rb+1) A0 w1)(k:bM w1 v L)(l:∀d∈L,d.TinyN M)(m:mR A0.heap.size v L):
  jP M A0 (w1.alloc (.cells #[v] 25)) rb w1.heap.size a cap bs f v L:=
 have b:K_ w1 (w1.alloc (.cells #[v] 25)):=ai _ _
 ⟨j.kept b,⟨e,i⟩,h.size,h.gJ b,aH.made w1 _ _,X_ w1 _ _ 0 _ rfl,k.kept b,l,m⟩
theorem LC :qY 25 1200 30 200 500000:=by
 intro w e a f h q b W r;have s:K_ w (w.alloc (.cells #[J6] 25)):=ai _ _;have A:Hid (Rd (w.alloc (.cells #[J6] 25)) e a f h q):=b.kept s;have B:Hid (aH (w.alloc (.cells #[J6] 25)) w.heap.size 25 1):=aH.made w _ _;have X:=b.row.lt;have C:=Kz b;clear b;go_enter func25,ntmps25
 go_wp2_with fail
 refine (IW (Kz KX) (Kz Ll) _ e a f h q A.o A7 r).mono ?_;rintro D w1 ⟨O,L,E,rfl,Y,Z,hl,F,t,G,v,P⟩;obtain⟨j,k,rfl,_,_⟩:=t.slice;have x:=Kz (jP.made A.o G v t F P);have H:=Kz ((B.o.but v A7).kept ((K_.refl w1).alloc (.cells #[.slice j L.length k] 25)));clear F t G v;go_wp2_with fail
 refine (aM _ e a f h E _ 24 rfl x.o.rd A7 A7 r).mono ?_;rintro D Q ⟨y,rfl,a0,I,z⟩;have c:=Kz (x.o.drawn I z);have d:=Kz (H.o.but z A7);clear I z x H B;have y2:=c.o.c0;have z2:=c.o.row.lt;by_cases l:y=0
 .have R:((y:Int) == 0)=true:=by simp[l]
  clear l;go_wp2_with fail
  refine (Fb 20 A7 _ e a f h (E+1) j k L c.o.rd A7 r A7 c.o.tiny c.o.web).mono ?_;intro D S J;obtain⟨O,rfl,p,⟨K,un,M,rfl⟩,N⟩:=(J.mono (M':=30) (N':=200) A7 A7).via (p:=q) (t':=1200) c.o.kb s A7 A7 C.o (Pw _) d.o A7;have⟨T,U⟩:=aJ N p;have z3:=p.lt;obtain⟨⟨_,u0⟩,V⟩:=p.row.at (i:=0) A7;clear N J p;go_wp2
  have b:=PD S w.heap.size 0 [.slice K un M] (U.o.row.there (o:=0) (m:=1) (Pw _));exact Zx [.slice K un M] _ results25 rfl b underlying25 rfl Tryz.iI rfl T.o
 .have R:((y:Int) == 0)=false:=by simpa using l
  clear l;obtain⟨⟨_,u0⟩,V⟩:=d.o.row.at (i:=0) A7;have zr:=d.o.lt;go_wp2
  have b:=PD Q w.heap.size 0 [.slice j L.length k] (d.o.row.there (o:=0) (m:=1) (Pw _));exact Zx [.slice j L.length k] _ results25 rfl b underlying25 rfl Tryz.iI rfl ((c.o.mono (n:=30) A7).ends d.o (Pw _) s C.o rfl A7 A7 A7)
section
variable {W wr w':QX}{rb ob:Nat}{a:QW}{cap:Nat}{bs:List UInt8}{p p':Nat}{cost:Int}{v:QY}{L:List Xq}{u:QY}{l:List Xz}
end
section
variable {W wr w':QX}{rb ob:Nat}{a:QW}{cap:Nat}{bs:List UInt8}{p p':Nat}{cost:Int}{v:QY}{L:List Xq}{u:QY}{l:List Xz}
end
theorem BytesAt.kept{w w':QX}{a:QW}{bs:List UInt8}(h:BytesAt w a bs)(k:K_ w w'):BytesAt w' a bs:=λi c=>by
 obtain⟨d,o,e,b,f⟩:=h i c;exact⟨d,o,e,Px b k.size,by rw[k.cell b];exact f⟩
theorem xS(w:QX)(t:TypeId)(cs:List Int)(q:Nat)(a:q<cs.length):∃c∈cs,(w.alloc (.cells (cs.map (Value.int .i64)).toArray t)).cell? ⟨w.heap.size,q,none⟩=some (.b c):=by
 refine⟨cs[q],PL a,?_⟩;rw[World.cell?_alloc_mark];simp[a]
theorem wH{P:Program}{e:Func}{R:Ending->QX->Prop}{a:Act}{w:QX}{p t:Tmp}{c:TypeId}{b:Nat}(cs:List QY)(v:QY)(d:TypeDesc)(h:e.results= #[.cell p c,.tmp t])(f:a.tmps.getD p undef=.h b)(i:w.rangeAt b 0 cs)(j:P.underlying c=some d)(k:d.isRow=true)(l:(P.info? c).map (·.size)=some cs.length)(m:a.tmps.getD t undef=v)(n:a.defers=[])(q:R (.returned (.tuple #[.agg cs.toArray,v])) w):bodyPost P e R .ret a w:=by
 refine bodyPost_ret ?_ n q;have r:a.tmps[p]?.getD undef=.h b:=by simpa using f
 have s:a.tmps[t]?.getD undef=v:=by simpa using m
 simp only[results,h];simp[r,s,asAddr,run_loadVar_mid w b 0 c cs d i j k l]
theorem uY{P:Program}{e:Func}{R:Ending->QX->Prop}{a:Act}{w:QX}{p t s:Tmp}{c:TypeId}{b:Nat}(cs:List QY)(v u:QY)(d:TypeDesc)(h:e.results= #[.cell p c,.tmp t,.tmp s])(f:a.tmps.getD p undef=.h b)(i:w.rangeAt b 0 cs)(j:P.underlying c=some d)(k:d.isRow=true)(l:(P.info? c).map (·.size)=some cs.length)(m:a.tmps.getD t undef=v)(n:a.tmps.getD s undef=u)(q:a.defers=[])(r:R (.returned (.tuple #[.agg cs.toArray,v,u])) w):bodyPost P e R .ret a w:=by
 refine bodyPost_ret ?_ q r;have x:a.tmps[p]?.getD undef=.h b:=by simpa using f
 have y:a.tmps[t]?.getD undef=v:=by simpa using m
 have z:a.tmps[s]?.getD undef=u:=by simpa using n
 simp only[results,h];simp[x,y,z,asAddr,run_loadVar_mid w b 0 c cs d i j k l]
def Oj(w w':QX)(e:Ending):Prop:=
 ∃(na:QW)(nc:Nat)(L:List Qz)(g c:Nat)(Kj:List QV),e=.returned (.tuple #[.agg #[.slice na L.length nc],.c g Kj.length c])/\L.length<=200/\(∀d∈L,d.TinyN 30)/\bM w' (.slice na L.length nc) L/\Kj.length<=c/\Kj.length<=12/\(∀x∈Kj,x.size<=300)/\eY w' 9 (some ⟨g,0,none⟩) Kj/\K_ w w'
theorem zJ(w:QX)(a:QW)(cap:Nat)(bs:List UInt8)(G:BytesAt w a bs)(H:bs.length<=cap)(I:bs.length<=100000000):
  Calls prog 9 #[.slice a bs.length cap] w λe w'=>Oj w w' e:=by
 have r:K_ w (w.alloc (.cells #[J6] 25)):=ai _ _;have J:=Kz (aH.made w #[J6] 25);have M:=Kz (G.kept r);have N:=Kz r;clear G r;go_enter func9,ntmps9
 go_wp2_with fail
 refine (Da _ a cap bs M.o H I).mono ?_;rintro e W ⟨i,rfl,X,s,t⟩;obtain⟨v,x⟩:=aj (bs.take 2000);have O:v.length<=2000:=by rw[x,PW];omega
 rw[<-x] at s;rw[Qh] at X;have Y:=Kz s;have Z:=Kz (N.o.trans t);have P:=Kz (J.o.kept t)
 
 clear s t x M N J H I;go_wp2_with fail
 refine (LC W i a cap v 0 Y.o A7 O).mono ?_;rintro e w1 ⟨b8,L,p1,rfl,b9,c0,hl,y,z,A,B,a0⟩;obtain⟨b,c,rfl,_,_⟩:=z.slice;obtain⟨d,k⟩:=aj (w1.alloc (.cells #[.slice b L.length c] 25));obtain⟨l,C⟩:=aj w1.heap.size;have n:K_ w1 d:=by rw[k];exact ai _ _
 have a1:i<w1.heap.size:=A.row.lt;have a2:d.heap.size=w1.heap.size+1:=by rw[k];simp
 have D:Hid (∀u,Xj i (i+1) d u->u.cell? ⟨l,0,none⟩=some (.slice b L.length c)/\l<u.heap.size):=λu Q=>by
  have hz:=Q.size;refine⟨(PO (w:=d) (a:=⟨l,0,none⟩) (Q.block l A7 A7)).trans ?_,A7⟩;rw[k,C];exact X_ w1 _ _ 0 _ rfl
 have R:=Kz (A.kept n);have S:=Kz (z.kept n);have a3:=Kz ((B.kept Z.o A7).trans n);have a4:=Kz ((P.o.but B A7).kept n);have a5:Hid (∀E∈L,E.name.size<=300):=λE hd=>(y E hd).name
 have a6:=Kz y;have a7:l≠w.heap.size:=A7;go_upto_region 3 with fail
 rw[<-k,<-C];clear k C a2 n A z B a0 y P a1;refine tu 5 D.o (.ak (a_ d)) λf=>?_;have q:K_ d d.drew:=a_ d;generalize a8:d.drew=wd at f q⊢;clear a8;refine ae 0 f ?_;refine ae 1 f ?_;refine ae 2 f ?_;refine aD 3 λK h=>?_;go_simp
 go_at_call 26
 refine (IL wd i a cap v p1 b c L (R.o.kept q) A7 O (S.o.kept q) A7 a5.o).mono ?_;rintro e j ⟨g,a9,Kj,p3,rfl,b0,b1,b2,T,_,_,b3,U⟩;have p:Xj i (i+1) d j:=(Xj.ak q).trans U;have b4:=Kz (S.o.same (p.sameKind R.o) A8 A8 A8 A8);have F:=Kz (a4.o.but p A7);have b5:=Kz (p.kept a3.o A7);have b6:=Kz T;clear T b3 U;dsimp only;refine af h (λ_=>D.o _ p) ?_;clear h K f;have f:=D.o _ p;refine aD 4 λK h=>?_;refine wp_store_mid 25 _ _ rfl w.heap.size 0 #[.slice b L.length c] D8 D8 (F.o.row.there (o:=0) (m:=1) (Nat.le_refl _)) C9 G6 ?_;refine af h (λ_=>⟨by rw[World.setCells,World.setCells,Zj a7];exact f.1,by rw[World.setCells,World.setCells,size_setCell];exact f.2⟩) ?_;clear h K;refine au 5 λK h=>?_;go_simp
 refine af h (λb7=>QK rfl b7) ?_;clear h K;refine aF ?_;go_wp2
 have hR:=PD j w.heap.size 0 [.slice b L.length c] (F.o.row.there (o:=0) (m:=1) (Pw _));have V:aB 25 j (j.setCells w.heap.size 0 [.slice b L.length c]):=F.o.same _;have kf:K_ w (j.setCells w.heap.size 0 [.slice b L.length c]):=(Xj.sets (Pw w.heap.size) (PZ _) [.slice b L.length c] 0 (Xj.refl _ _ j)).kept b5.o (Pw _);exact wH [.slice b L.length c] _ _ results9 rfl hR underlying25 rfl Tryz.iI rfl rfl ⟨b,c,L,g,a9,Kj,rfl,hl,a6.o,b4.o.same V A8 A8 A8 A8,b0,b1,b2,b6.o.same V A8,kf⟩
section
variable {W wr w':QX}{rb:Nat}{a:QW}{cap:Nat}{bs:List UInt8}{p p':Nat}{v:QY}{l:List Int}
end
theorem Qk.more{P:Program}{c:Array Oper}{Q:Exit->Act->QX->Prop}{d:Region.Mode}{S:QX->Prop}{z:Nat}(b:QX->Prop)(h:∀u,b u->S u):∀{n:Nat}{up:Array Bool}{a:Act}{w:QX},Qk P d c Q b z n up a w->Qk P d c Q S z n up a w
 |0,_,_,_,g=>g
 |_+1,_,_,_,g=>⟨g.1,λk e=>wpOp_mono (λ_ u x=>⟨λf=>h u (x.1 f),Qk.more b h x.2⟩) (g.2 k e)⟩
theorem xG{w w':QX}{b o:Nat}{cs:List QY}(h:w.rangeAt b o cs)(k:w'.heap[b]? =w.heap[b]?):w'.rangeAt b o cs:=λj v f=>(PO (w:=w) (a:=⟨b,o+j,none⟩) k).trans (h j v f)
structure DWI (w wr:QX)(wb:Nat)(na:QW)(nc:Nat)(L:List Qz)(g:Nat)(Kj:List QV)(f:Bool):Prop where
 kw:K_ w wr
 r1:aH wr w.heap.size 25 1
 wc:wr.cell? ⟨wb,0,none⟩=some (.slice na L.length nc)
 wl:wb<wr.heap.size
 wn:w.heap.size<wb
 nd:bM wr (.slice na L.length nc) L
 ts:eY wr 9 (some ⟨g,0,none⟩) Kj
 g1:f=true->wr.rangeAt w.heap.size 0 [.slice na L.length nc]
section
variable {w wr w':QX}{rb wb:Nat}{a:QW}{cap:Nat}{bs:List UInt8}{p:Nat}{na:QW}{nc:Nat}{L:List Qz}{g:Nat}{Kj:List QV}{f:Bool}
theorem DWI.drawn(h:DWI w wr wb na nc L g Kj f)(j:w.heap.size<rb)(l:rb<wb)(d:Rd wr rb a cap bs p)(k:Xj rb (rb+1) wr w'):DWI w w' wb na nc L g Kj f:=by
 have b:=k.sameKind d;have c:=k.block _ h.r1.lt A7;have e:=k.block _ h.wl A7;exact⟨k.kept h.kw A7,h.r1.block c,(PO (w:=wr) e).trans h.wc,Px h.wl k.size,h.wn,h.nd.same b A8 A8 A8 A8,h.ts.same b A8,λi=>xG (h.g1 i) c⟩
theorem DWI.kept(h:DWI w wr wb na nc L g Kj f)(k:K_ wr w'):DWI w w' wb na nc L g Kj f:=by
 have b:=k.block _ h.r1.lt;exact⟨h.kw.trans k,h.r1.block b,(k.cell h.wl).trans h.wc,Px h.wl k.size,h.wn,h.nd.kept k,h.ts.same (u:=25) (aB.ak k) A8,λe=>xG (h.g1 e) b⟩
theorem DWI.NJ(h:DWI w wr wb na nc L g Kj f):DWI w (wr.setCells w.heap.size 0 [.slice na L.length nc]) wb na nc L g Kj true:=by
 have k:Xj w.heap.size (w.heap.size+1) wr (wr.setCells w.heap.size 0 [.slice na L.length nc]):=Xj.sets (Pw _) (PZ _) _ 0 (Xj.refl _ _ _);have c:aB 25 wr (wr.setCells w.heap.size 0 [.slice na L.length nc]):=h.r1.same _;have d:=h.wn;have e:=k.block _ h.wl A7;exact⟨k.kept h.kw (Pw _),aH.sets _ _ h.r1,(PO (w:=wr) e).trans h.wc,Px h.wl k.size,d,h.nd.same c A8 A8 A8 A8,h.ts.same c A8,λ_=>PD wr w.heap.size 0 [.slice na L.length nc] (h.r1.row.there (o:=0) (m:=1) (Pw _))⟩
def LD(w w':QX)(e:Ending):Prop:=
 ∃(na:QW)(nc:Nat)(L:List Qz)(g c:Nat)(Kj:List QV)(x:Int),e=.returned (.tuple #[.agg #[.slice na L.length nc],.c g Kj.length c,.b x])/\L.length<=200/\(∀d∈L,d.TinyN 30)/\bM w' (.slice na L.length nc) L/\Kj.length<=c/\Kj.length<=12/\(∀x∈Kj,x.size<=300)/\eY w' 9 (some ⟨g,0,none⟩) Kj/\K_ w w'
theorem DWI.w1{b:Oper}{x y:Operand}{a:Act}{K:Act->QX->Prop}{Q:Exit->Act->QX->Prop}(h:DWI w wr wb na nc L g Kj f)(i:b.op=.store 25 x y)(j:a.eval x=.h w.heap.size)(hy:a.eval y=.agg #[.slice na L.length nc])(k:K (a.put b.dst undef) (wr.setCells w.heap.size 0 [.slice na L.length nc])):b.wp prog a wr K Q:=
 wp_store_mid 25 _ _ i w.heap.size 0 #[.slice na L.length nc] j hy (h.r1.row.there (o:=0) (m:=1) (Pw _)) C9 G6 k
theorem DWI.fin{b:Func}{a:Act}{c:Nat}{x:Int}(h:DWI w wr wb na nc L g Kj true)(f:b.results= #[.cell 2 25,.tmp 3,.tmp 4])(i:L.length<=200)(j:∀d∈L,d.TinyN 30)(k:Kj.length<=c)(l:Kj.length<=12)(m:∀x∈Kj,x.size<=300)(h2:a.tmps.getD 2 undef=.h w.heap.size)(n:a.tmps.getD 3 undef=.c g Kj.length c)(p:a.tmps.getD 4 undef=.b x)(q:a.defers=[]):bodyPost prog b (λe w'=>LD w w' e) .ret a wr:=
 uY [.slice na L.length nc] _ _ _ f h2 (h.g1 rfl) underlying25 rfl Tryz.iI n p q ⟨na,nc,L,g,c,Kj,x,rfl,i,j,h.nd,k,l,m,h.ts,h.kw⟩
theorem xk{a q b:Nat}{x:Int}{v:QY}(h:wr.cell? ⟨a,q,none⟩=some (.b x)/\a<wr.heap.size)(d:a≠b):(wr.setCells b 0 [v]).cell? ⟨a,q,none⟩=some (.b x)/\a<(wr.setCells b 0 [v]).heap.size:=
 ⟨by rw[World.setCells,World.setCells,Zj d];exact h.1,by rw[World.setCells,World.setCells,size_setCell];exact h.2⟩
end
theorem BK(w:QX)(a:QW)(cap:Nat)(bs:List UInt8)(hB:BytesAt w a bs)(V:bs.length<=cap)(W:bs.length<=100000000):
  Calls prog 4 #[.slice a bs.length cap] w λe w'=>LD w w' e:=by
 have X:K_ w (w.alloc (.cells #[J6] 25)):=ai _ _;have a4:=Kz (aH.made w #[J6] 25);have Y:=Kz (hB.kept X);have a5:=Kz X;clear hB X;go_enter func4,ntmps4
 go_wp2_with fail
 refine (Da _ a cap bs Y.o V W).mono ?_;rintro e b4 ⟨D,rfl,b5,Z,R⟩;obtain⟨E,a0⟩:=aj (bs.take 2000);have S:E.length<=2000:=by rw[a0,PW];omega
 rw[<-a0] at Z;rw[Qh] at b5;have a1:=Kz Z;have a6:=Kz (a5.o.trans R);have a7:=Kz (a4.o.kept R);have a8:=Kz (Y.o.kept R);clear Z R a0 Y a5 a4;go_wp2_with fail
 refine (zJ b4 a cap bs a8.o V W).mono ?_;rintro e w1 ⟨p,r,L,g,b9,Kj,rfl,F,a9,hG,G,H,b0,hT,k2⟩;obtain⟨WB,I⟩:=aj (w1.alloc (.cells #[.slice p L.length r] 25));obtain⟨m,J⟩:=aj w1.heap.size;have T:K_ w1 WB:=by rw[I];exact ai _ _
 have U:=k2.trans T;have b6:D<m:=by rw[J];exact Px a1.o.row.lt k2.size
 have i:=Kz (a1.o.kept U);have⟨M,N⟩:=aJ a9 b0;have b:Hid (DWI w WB m p r L g Kj false):=⟨a6.o.trans U,a7.o.kept U,by rw[I,J];exact X_ w1 _ _ 0 _ rfl,by rw[I,J];simp,A7,hG.kept T,hT.same (u:=25) (aB.ak T) A8,λe=>by cases e⟩;go_upto_region 3 with fail
 rw[<-I,<-J];clear I J T k2 U hG hT a9 b0 a7 a8 a6 a1 V W;go_wp2_with fail
 refine (aM _ D a cap E 0 _ 16 rfl i.o A7 A7 S).mono ?_;rintro e C ⟨b1,rfl,hn,b2,b3⟩;have b:=Kz (b.o.drawn A7 b6 i.o b3);have i:=Kz b2;clear b2 b3 hn;by_cases h0:b1=0
 .subst h0;go_wp2
  refine Qk.region C9 (λu=>u.cell? ⟨m,0,none⟩=some (.slice p L.length r)/\m<u.heap.size) 9 (have h:=b.o.kept (a_ _);⟨h.wc,h.wl⟩) λd=>?_;have b:=Kz (b.o.kept (a_ C));have i:=Kz (i.o.kept (a_ C));generalize a2:C.drew=z at d b i⊢;clear a2;refine ae 0 d ?_;refine ae 1 d ?_;refine ae 3 d ?_;refine iX 2 4 (λK c=>?_) λK c=>?_
  .rw[QI D8];go_simp
   have n:K_ z (z.alloc (.cells #[.b 0,.b (-1),.b 60,.b 61] 3)):=ai _ _;have b7:=i.o.row.lt;have b:=Kz (b.o.kept n);have i:=Kz (i.o.kept n);refine af c (λ_=>⟨b.o.wc,b.o.wl⟩) ?_;clear c K n;refine aD 4 λK c=>?_;go_simp
   go_at_call 10
   refine (aM _ D a cap E 1 _ 4 rfl i.o A7 A7 S).mono ?_;rintro e k ⟨q,rfl,hq,A,t⟩;obtain⟨x,B,s⟩:=Ni [0, -1,60,61] t b7 q (by show q<4;omega);have f:Hid (k.cell? ⟨z.heap.size,q,none⟩=some (.b x)/\z.heap.size<k.heap.size):=⟨s,Nat.lt_of_lt_of_le A9 t.size⟩;clear s B;have b:=Kz (b.o.drawn A7 A7 i.o t);have i:=Kz A;clear A t;dsimp only;refine af c (λ_=>⟨b.o.wc,b.o.wl⟩) ?_;clear c K d;refine Qk.more (λu=>(u.cell? ⟨m,0,none⟩=some (.slice p L.length r)/\m<u.heap.size)/\u.cell? ⟨z.heap.size,q,none⟩=some (.b x)/\z.heap.size<u.heap.size) (λu h=>h.1) ?_;have d:=(show (_/\_)/\_/\_ from ⟨⟨b.o.wc,b.o.wl⟩,f.o⟩);have a3:(q:Int)<4:=A7;refine ae 5 d ?_ (hy:=λu l=>by obtain⟨⟨_,_⟩,_,_⟩:=l;go_simp;try with_reducible rfl);refine ae 6 d ?_ (hy:=λu l=>by obtain⟨⟨_,_⟩,_,_⟩:=l;go_simp;try with_reducible rfl);clear d;refine aD 7 λK c=>?_;refine b.o.w1 rfl rfl rfl ?_;have b:=Kz b.o.NJ;refine af c (λ_=>⟨⟨b.o.wc,b.o.wl⟩,xk f.o (show z.heap.size≠w.heap.size by omega)⟩) ?_;clear c K;have f:=Kz (xk (v:=.slice p L.length r) f.o (show z.heap.size≠w.heap.size by omega));refine au 8 λK c=>?_;go_simp
   refine af c (λ_=>⟨⟨b.o.wc,b.o.wl⟩,f.o⟩) ?_;clear c K;refine au 9 λK c=>?_;go_simp
   refine af c (λh=>QK rfl h) ?_;clear c K;refine aF ?_;go_wp2_with fail
   exact b.o.fin results4 F M.o G H N.o rfl rfl rfl rfl
  .rw[QI D8];go_simp
   go_at_call 10
   refine (aM _ D a cap E 1 _ 4 rfl i.o A7 A7 S).mono ?_;rintro e k ⟨q,rfl,hq,A,t⟩
   skip
   have b:=Kz (b.o.drawn A7 A7 i.o t);have i:=Kz A;clear A t;dsimp only;refine af c (λ_=>⟨b.o.wc,b.o.wl⟩) ?_;clear c K d;refine iX 2 7 (λK c=>?_) λK c=>?_
   .rw[QI D8];go_simp
    have n:K_ k (k.alloc (.cells #[.b 0,.b (-1),.b 60,.b 61] 3)):=ai _ _;have O:w.heap.size<k.heap.size:=Nat.lt_trans b.o.wn b.o.wl;obtain⟨x,B,s⟩:=xS k 3 [0, -1,60,61] q (by show q<4;omega);have b:=Kz (b.o.kept n);have f:Hid ((k.alloc (.cells #[.b 0,.b (-1),.b 60,.b 61] 3)).cell? ⟨k.heap.size,q,none⟩=some (.b x)/\k.heap.size<(k.alloc (.cells #[.b 0,.b (-1),.b 60,.b 61] 3)).heap.size):=⟨s,A9⟩;clear s B n;refine af c (λ_=>⟨b.o.wc,b.o.wl⟩) ?_;clear c K;generalize P:k.heap.size=y at f O⊢;generalize Q:k.alloc (.cells #[.b 0,.b (-1),.b 60,.b 61] 3)=wE at b f⊢;clear Q P;refine Qk.more (λu=>(u.cell? ⟨m,0,none⟩=some (.slice p L.length r)/\m<u.heap.size)/\u.cell? ⟨y,q,none⟩=some (.b x)/\y<u.heap.size) (λu h=>h.1) ?_;have d:=(show (_/\_)/\_/\_ from ⟨⟨b.o.wc,b.o.wl⟩,f.o⟩);have a3:(q:Int)<4:=A7;refine ae 5 d ?_ (hy:=λu l=>by obtain⟨⟨_,_⟩,_,_⟩:=l;go_simp;try with_reducible rfl);refine ae 6 d ?_ (hy:=λu l=>by obtain⟨⟨_,_⟩,_,_⟩:=l;go_simp;try with_reducible rfl);clear d;refine aD 7 λK c=>?_;refine b.o.w1 rfl rfl rfl ?_;have b:=Kz b.o.NJ;refine af c (λ_=>⟨⟨b.o.wc,b.o.wl⟩,xk f.o (show y≠w.heap.size by omega)⟩) ?_;clear c K;have f:=Kz (xk (v:=.slice p L.length r) f.o (show y≠w.heap.size by omega));refine au 8 λK c=>?_;go_simp
    refine af c (λ_=>⟨⟨b.o.wc,b.o.wl⟩,f.o⟩) ?_;clear c K;refine au 9 λK c=>?_;go_simp
    refine af c (λh=>QK rfl h) ?_;clear c K;refine aF ?_;go_wp2_with fail
    exact b.o.fin results4 F M.o G H N.o rfl rfl rfl rfl
   .rw[QI D8];refine b.o.w1 rfl rfl rfl ?_;have b:=Kz b.o.NJ;refine af c (λ_=>⟨b.o.wc,b.o.wl⟩) ?_;clear c K;generalize b8:k.setCells w.heap.size 0 [.slice p L.length r]=j at b⊢;clear b8;refine iX 2 8 (λK c=>?_) (λK c=>?_)
    .rw[QI D8];go_simp
     have n:K_ j (j.alloc (.cells #[.b 0,.b (-1),.b 60,.b 61] 3)):=ai _ _;have O:w.heap.size<j.heap.size:=Nat.lt_trans b.o.wn b.o.wl;obtain⟨x,B,s⟩:=xS j 3 [0, -1,60,61] q (by show q<4;omega);have b:=Kz (b.o.kept n);have f:Hid ((j.alloc (.cells #[.b 0,.b (-1),.b 60,.b 61] 3)).cell? ⟨j.heap.size,q,none⟩=some (.b x)/\j.heap.size<(j.alloc (.cells #[.b 0,.b (-1),.b 60,.b 61] 3)).heap.size):=⟨s,A9⟩;clear s B n;refine af c (λ_=>⟨b.o.wc,b.o.wl⟩) ?_;clear c K;generalize P:j.heap.size=y at f O⊢;generalize Q:j.alloc (.cells #[.b 0,.b (-1),.b 60,.b 61] 3)=wE at b f⊢;clear Q P;refine Qk.more (λu=>(u.cell? ⟨m,0,none⟩=some (.slice p L.length r)/\m<u.heap.size)/\u.cell? ⟨y,q,none⟩=some (.b x)/\y<u.heap.size) (λu h=>h.1) ?_;have d:=(show (_/\_)/\_/\_ from ⟨⟨b.o.wc,b.o.wl⟩,f.o⟩);have a3:(q:Int)<4:=A7;refine ae 5 d ?_ (hy:=λu l=>by obtain⟨⟨_,_⟩,_,_⟩:=l;go_simp;try with_reducible rfl);refine ae 6 d ?_ (hy:=λu l=>by obtain⟨⟨_,_⟩,_,_⟩:=l;go_simp;try with_reducible rfl);clear d;refine au 8 λK c=>?_;go_simp
     refine af c (λ_=>⟨⟨b.o.wc,b.o.wl⟩,f.o⟩) ?_;clear c K;refine au 9 λK c=>?_;go_simp
     refine af c (λh=>QK rfl h) ?_;clear c K;refine aF ?_;go_wp2_with fail
     exact b.o.fin results4 F M.o G H N.o rfl rfl rfl rfl
    .go_simp
     refine af c (λ_=>⟨b.o.wc,b.o.wl⟩) ?_;clear c K;refine aD 2 λK c=>?_;go_simp
     have n:K_ j (j.alloc (.cells #[.b 0,.b (-1),.b 60,.b 61] 3)):=ai _ _;have O:w.heap.size<j.heap.size:=Nat.lt_trans b.o.wn b.o.wl;obtain⟨x,B,s⟩:=xS j 3 [0, -1,60,61] q (by show q<4;omega);have b:=Kz (b.o.kept n);have f:Hid ((j.alloc (.cells #[.b 0,.b (-1),.b 60,.b 61] 3)).cell? ⟨j.heap.size,q,none⟩=some (.b x)/\j.heap.size<(j.alloc (.cells #[.b 0,.b (-1),.b 60,.b 61] 3)).heap.size):=⟨s,A9⟩;clear s B n;refine af c (λ_=>⟨b.o.wc,b.o.wl⟩) ?_;clear c K;generalize P:j.heap.size=y at f O⊢;generalize Q:j.alloc (.cells #[.b 0,.b (-1),.b 60,.b 61] 3)=wE at b f⊢;clear Q P;refine Qk.more (λu=>(u.cell? ⟨m,0,none⟩=some (.slice p L.length r)/\m<u.heap.size)/\u.cell? ⟨y,q,none⟩=some (.b x)/\y<u.heap.size) (λu h=>h.1) ?_;have d:=(show (_/\_)/\_/\_ from ⟨⟨b.o.wc,b.o.wl⟩,f.o⟩);have a3:(q:Int)<4:=A7;refine ae 5 d ?_ (hy:=λu l=>by obtain⟨⟨_,_⟩,_,_⟩:=l;go_simp;try with_reducible rfl);refine ae 6 d ?_ (hy:=λu l=>by obtain⟨⟨_,_⟩,_,_⟩:=l;go_simp;try with_reducible rfl);clear d;refine au 9 λK c=>?_;go_simp
     refine af c (λh=>QK rfl h) ?_;clear c K;refine aF ?_;go_wp2_with fail
     exact b.o.fin results4 F M.o G H N.o rfl rfl rfl rfl
 .have e0:((b1:Int) == 0)=false:=by simpa using h0
  clear h0;go_wp2
  refine Qk.region C9 (λu=>u.cell? ⟨m,0,none⟩=some (.slice p L.length r)/\m<u.heap.size) 7 (have h:=b.o.kept (a_ _);⟨h.wc,h.wl⟩) λd=>?_;have b:=Kz (b.o.kept (a_ C));have i:=Kz (i.o.kept (a_ C));generalize a2:C.drew=z at d b i⊢;clear a2;refine ae 0 d ?_;refine ae 1 d ?_;refine ae 2 d ?_;refine aD 3 λK c=>?_;go_simp
  go_at_call 10
  refine (aM _ D a cap E 1 _ 5 rfl i.o A7 A7 S).mono ?_;rintro e k ⟨q,rfl,hq,A,t⟩
  skip
  have b:=Kz (b.o.drawn A7 A7 i.o t);have i:=Kz A;clear A t;dsimp only;refine af c (λ_=>⟨b.o.wc,b.o.wl⟩) ?_;clear c K d;have d:=(show _/\_ from ⟨b.o.wc,b.o.wl⟩);refine ae 4 d ?_;clear d;refine aD 5 λK c=>?_;refine b.o.w1 rfl rfl rfl ?_;have b:=Kz b.o.NJ;refine af c (λ_=>⟨b.o.wc,b.o.wl⟩) ?_;clear c K;refine au 6 λK c=>?_;go_simp
  refine af c (λ_=>⟨b.o.wc,b.o.wl⟩) ?_;clear c K;refine au 7 λK c=>?_;go_simp
  refine af c (λh=>QK rfl h) ?_;clear c K;refine aF ?_;go_wp2_with fail
  exact b.o.fin results4 F M.o G H N.o rfl rfl rfl rfl
