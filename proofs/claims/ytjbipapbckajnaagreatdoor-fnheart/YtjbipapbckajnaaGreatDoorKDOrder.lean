import Derived.Test.YtjbipapbckajnaaGreatDoorKFImpl2
import Derived.Deep.RegionHeldLaw
import Derived.Test.YtjbipapbckajnaaGreatDoorKVNeeds
set_option maxRecDepth 100000
set_option maxHeartbeats 25600000
namespace Go.Proofs.YtjbipapbckajnaaGreatDoor
open Go.RowKit Go.Proofs.Tryz
def yL(v:NJ)(n:Nat):Prop:=∃g c,v= .b g n c
theorem rR{w:NI}{base size:Nat}{e:TypeId}{v:NJ}{n:Nat}{a:List NJ}(h:w.ownsRow base e size v n a)(d:0<n):yL v n:=by
 rcases h.2 with⟨_,e⟩|⟨g,c,f,e,_⟩
 .omega
 .exact⟨g,c,e⟩
def yJ(w w':NI)(rb:Nat)(a:NH)(cap:Nat)(bs:List UInt8)(p:Nat)(e:Ending):Prop:=
 ∃(g c:Nat) (l:List NG) (p':Nat),e= .returned (.b g l.length c)/\l.length<=c/\l.length<=12/\(∀x∈l,x.size<=300)/\eU w' 9 (some ⟨g,0,none⟩) l/\p<=p'/\p'<=p+20/\Rd w' rb a cap bs p'/\Xj rb (rb+1) w w'
section
variable {W wr : NI} {rb : Nat} {a : NH} {cap : Nat} {bs : List UInt8} {p q : Nat} {v : NJ} {l : List NG}
theorem OSt.Kj(h:OSt W wr rb a cap bs q v l)(d:yL v l.length)(f:l.length<=12)(i:p<=q)(h2:q<=p+20):yJ W wr rb a cap bs p (.returned v):=by
 obtain⟨n,c,e,j,k⟩:=dh h.own;obtain⟨g,m,b⟩:=d;rw[b] at e;simp only[MW] at e;obtain⟨rfl,_,rfl⟩:=e;exact⟨g,m,l,q,by rw[b],j,f,h.sz,k,i,h2,h.rd,h.kb⟩
theorem OSt.front{w2:NI}{d:NJ}{x:NG}(h:OSt W wr rb a cap bs q v l)(k:K_ wr w2)(e:w2.ownsRow W.heap.size 9 1 d (1+l.length) ([.string x]++l.map Value.string))(f:x.size<=300):OSt W w2 rb a cap bs q d (x :: l):=by
 refine⟨h.rd.kept k,h.rd0,h.kb.fQ k,by rw[MX,Nat.add_comm];exact e,λy c=>?_⟩;rcases Na.1 c with rfl | c
 .exact f
 .exact h.sz y c
theorem OSt.strs(h:OSt W wr rb a cap bs q v l):∃sa c,v= .slice sa l.length c/\l.length<=c/\eU wr 9 sa l:=dh h.own
theorem Db{l:List NG}{i:Nat}(hi:i<=26)(h:∀j,j<i->kG j∈l):i<=l.length:=by
 have b:((List.range i).map kG).Nodup:=by
  rw[List.Nodup,List.pairwise_map];refine List.Pairwise.imp_of_mem ?_ List.pairwise_lt_range;intro x y a c f d;have k:=List.mem_range.1 a;have m:=List.mem_range.1 c;have:=Ee E5 E5 d;omega
 have:=List.Nodup.length_le_of_subset b (l₂:=l) (λx a=>by
  obtain⟨j,e,rfl⟩:=MH.1 a;exact h j (List.mem_range.1 e))
 simpa using this
end
theorem FP(w:NI)(q:Nat)(a:NH)(v:Nat)(r:List UInt8)(p:Nat)(V:NH)(C:Nat)(L:List Qz)(hR:Rd w q a v r p)(hp:p<=900000)(W:r.length<=2000)(hN:bL w (.slice V L.length C) L)(hL:L.length<=100000)(D:∀d∈L,d.name.size<=300):
  Calls prog 54 #[.c q,.agg #[.slice V L.length C]] w λe w'=>yJ w w' q a v r p e:=by
 obtain⟨E,a1⟩:=aj (w.alloc (.cells #[.slice V L.length C] 25));have kB:K_ w E:=by rw[a1];exact ah _ _
 have b0:E.cell? ⟨w.heap.size,0,none⟩=some (.slice V L.length C):=by rw[a1];exact X_ w _ _ 0 _ rfl
 have a9:w.heap.size<E.heap.size:=by rw[a1];simp
 have f:=Kz (OSt.made hR (hR.kept kB) (.ax kB));have h:K_ E (E.alloc (.cells #[] 9)):=ah _ _;have b8:(E.alloc (.cells #[] 9)).cell? ⟨w.heap.size,0,none⟩=some (.slice V L.length C):=(h.cell a9).trans b0;have b1:=Kz (hN.nodes.kept (kB.trans h));go_enter func54,ntmps54
 have b9:w.heap.size<(E.alloc (.cells #[] 9)).heap.size:=Mf a9 h.size;rw[a1] at b8 f b1 b9;rw[MS] at f;clear h kB b0 a9 hN a1 E;go_upto_if 13 with fail
 have c0:yL (.b (w.heap.size+1) 0 0) 0:=⟨_,_,rfl⟩;go_cut [5] from 13 to 25 (λs5 wx=>∃l:List NG,OSt w wx q a v r p s5 l/\yL s5 l.length/\l.length<=1)
 case first=>
  by_cases f3:0<L.length
  .have hk:L.length-1<L.length:=E5;obtain⟨nb,no,cs,e1,f4,b2,c1⟩:=b1.out (L.length-1) hk;obtain⟨x,K⟩:=aj ((L.getD (L.length-1) Qz.zero).name);have d6:x.size<=300:=by
    rw[K];simp only[List.getD,Mj hk,Nw];exact D _ (Mq hk)
   obtain⟨b3,hm⟩:=aj (L.length-1);rw[<-hm] at b2 K c1;obtain⟨sa,sc,e2,_⟩:=c1;have f5:((w.alloc (.cells #[.slice V L.length C] 25)).alloc (.cells #[] 9)).cell? ⟨nb,no+b3*3,none⟩=some (.string x):=by
    have:=b2 0 (.string x) (by rw[e2,K];rfl);simpa using this
   have c2:(L.length:Int)-1= (b3:Int):=E5;have e6:(b3:Int)<(L.length:Int):=E5;subst e1;have K1:K_ ((w.alloc (.cells #[.slice (some ⟨nb,no,none⟩) L.length C] 25)).alloc (.cells #[] 9)) (((w.alloc (.cells #[.slice (some ⟨nb,no,none⟩) L.length C] 25)).alloc (.cells #[] 9)).alloc (.cells #[.string x] 9)):=ah _ _;have F:=Kz K1;have G:=Kz (f.o.kept K1).own;have M:=(f.o.kept K1).kb.size;obtain⟨N,O,P,Q,R⟩:=aP Tryz.gJ;clear K hm b2 e2 hk K1;go_wp2_with (at_builtin;refine wpList_append_own _ rfl (.tmp 14) (.tmp 24) 26 rfl w.heap.size 9 N _ 1 16 underlying26 O P Q R rfl E8 (.b (w.heap.size+1) 0 0) 0 [] rfl G.o ⟨w.heap.size+2,0,none⟩ 1 1 [.string x] rfl rfl (by simpa using kU ((w.alloc (.cells #[.slice (some ⟨nb,no,none⟩) L.length C] 25)).alloc (.cells #[] 9)) x) (ko x) F5 E5 M ?_;intro v' w2 k y _;have S:=Kz (f.o.push F.o k y d6);have T:=rR k E5;clear k y)
   go_meet
   exact⟨[x],S.o,T,Me _⟩
  .go_wp2
   go_meet
   exact⟨[],f.o,c0,Mg _⟩
 case rest=>
  obtain⟨l0,H,I,hl⟩:=hcut;have⟨b4,c3⟩:=aH H I;clear H I f c0 b1 b8 b9;go_wp2_with fail
  refine (aM _ q a v r p _ 4 rfl b4.o.rd E5 E5 W).mono ?_;rintro e w2 ⟨a5,rfl,hn,c4,c5⟩;have c6:=Kz (b4.o.drawn c4 c5);clear c4 c5 b4;go_wp2
  go_loopg [5,6] a5 (λg x5 x6 wr=>∃(p':Nat) (l:List NG),x6= .a (g:Int)/\g<=a5/\p<=p'/\p'+2*g<=p+1+2*a5/\l.length+g<=1+a5/\OSt w wr q a v r p' x5 l/\yL x5 l.length)
  case atStart=>exact⟨p+1,l0,rfl,Me _,E5,E5,E5,c6.o,c3.o⟩
  case round=>
   clear c6 c3 hl;obtain⟨B,l,rfl,hg,f6,d7,d8,H,I⟩:=hrel;have⟨f,X⟩:=aH H I;obtain⟨ob,oc,rfl⟩:=I;clear H;by_cases f7:(0:Int)<(gk:Int)
   .go_wp2_with fail
    refine (aM _ q a v r B _ 12 rfl f.o.rd E5 E5 W).mono ?_;rintro e w3 ⟨z,rfl,d9,a2,a3⟩;have A:=Kz (f.o.drawn a2 a3);clear a2 a3 f;go_wp2_with fail
    refine (jq _ z _ rfl E5).mono ?_;rintro e w4 ⟨x0,rfl,f8,k4⟩;have s:=Kz (A.o.kept k4);clear k4 A;go_wp2_with fail
    refine (aM _ q a v r (B+1) _ 10 rfl s.o.rd E5 E5 W).mono ?_;rintro e w5 ⟨q5,rfl,f9,c7,c8⟩;have J:=Kz (s.o.drawn c7 c8);clear c7 c8 s;go_upto_if 37 with fail
    go_cut [7] from 37 to 38 (λs7 wx=>∃x:NG,s7= .string x/\x.size<=300/\wx=w5)
    case first=>
     by_cases h5:q5=0
     .have c2:((q5:Int) == 0)=true:=by simp[h5]
      clear h5;go_wp2
      go_meet
      exact⟨_,rfl,E8,rfl⟩
     .have c2:((q5:Int) == 0)=false:=by simpa using h5
      clear h5;go_wp2
      go_meet
      exact⟨_,rfl,E5,rfl⟩
    case rest=>
     obtain⟨x,rfl,K,rfl⟩:=hcut;have a6:Hid (Strs wc (some ⟨ob,0,none⟩) l):=by
      obtain⟨sa,c,e,_,D⟩:=J.o.strs;simp only[MW] at e;obtain⟨rfl,_,_⟩:=e;exact D.strs
     go_wp2_with fail
     refine (tX _ (some ⟨ob,0,none⟩) oc l x E5 a6.o).mono ?_;rintro e t ⟨b5,rfl⟩;rcases b5.cases with⟨rfl,_⟩|⟨rfl,_⟩
     .go_wp2
      go_roundg (gk-1)
      case measure=>omega
      case rel=>exact⟨B+2,l,F3,E5,E5,E5,E5,J.o,X.o⟩
     .obtain⟨N,O,P,Q,R⟩:=aP Tryz.gJ;have h:K_ t (t.alloc (.cells #[.string x] 9)):=ah _ _;have F:=Kz h;have G:Hid ((t.alloc (.cells #[.string x] 9)).ownsRow t.heap.size 9 1 (.b t.heap.size 1 1) 1 ([x].map Value.string)):=World.ownsRow_lit t #[.string x] 1 (Me _) E8 rfl;have e3:Hid (∀j u,(l.map Value.string)[j]? =some u->(t.alloc (.cells #[.string x] 9)).cell? ((⟨ob,0,none⟩:Addr).add j)=some u):=λj u hu=>by
       have Y:j<l.length:=by have:=(Mk.1 hu).1;simpa using this
       obtain⟨b,o,e,hb,U⟩:=(a6.o.kept F.o) j Y;simp only[MV] at e;rw[e,MZ,U];simp[Y] at hu;simp[List.getD,Y,hu]
      have e4:Hid (∀u∈l.map Value.string,u.oneCell'=true):=λu hu=>by obtain⟨c9,_,rfl⟩:=MH.1 hu;rfl
      have M:t.heap.size<=(t.alloc (.cells #[.string x] 9)).heap.size:=h.size;have e5:=Kz J.o.kb.size;clear h;go_wp2_with (at_builtin;refine wpList_append_own _ rfl (.tmp 43) (.tmp 44) 26 rfl t.heap.size 9 N _ 1 16 underlying26 O P Q R rfl E8 (.b t.heap.size 1 1) 1 ([x].map Value.string) rfl G.o ⟨ob,0,none⟩ l.length oc (l.map Value.string) rfl E9 e3.o e4.o F5 E5 M ?_;intro v' n k y _;have S:=Kz (J.o.front (aK F.o (Me _) G.o y) (dM k e5.o) K);have T:=rR k E5;clear k y)
      go_roundg (gk-1)
      case measure=>omega
      case rel=>exact⟨B+2,x :: l,F3,E5,E5,E5,by rw[MX];omega,S.o,by rw[MX,Nat.add_comm];exact T⟩
   .have e7:l.length<=5:=E5;have g0:B<=p+7:=E5;clear d8 d7;go_wp2_with fail
    refine (aM _ q a v r B _ 50 rfl f.o.rd E5 E5 W).mono ?_;rintro e w3 ⟨z,rfl,d9,a2,a3⟩;have A:=Kz (f.o.drawn a2 a3);clear a2 a3 f;by_cases h0:z=0
    .have e0:((z:Int) == 0)=true:=by simp[h0]
     obtain⟨p0,d0⟩:=A.o.rd0;have HE:=Kz (OSt.made d0 A.o.rd A.o.kb);clear d0;clear h0;go_wp2
     go_ret
     exact OSt.Kj HE.o ⟨_,_,rfl⟩ E9 E5 E5
    have e0:((z:Int) == 0)=false:=by simpa using h0
    clear h0;by_cases h1:z=1
    .have e1:((z:Int) == 1)=true:=by simp[h1]
     clear h1;have K3:K_ w3 (w3.alloc (.cells #[.string ⟨#[]⟩,.string ⟨#[45]⟩,.string ⟨#[103,111,110,101]⟩] 9)):=ah _ _;have s:=Kz (A.o.kept K3);clear K3;go_wp2_with fail
     refine (aM _ q a v r (B+1) _ 3 rfl s.o.rd E5 E5 W).mono ?_;rintro e n ⟨b6,rfl,hq,d1,a7⟩;have J:=Kz (s.o.drawn d1 a7);obtain⟨c,U,e8⟩:=zV [⟨#[]⟩,⟨#[45]⟩,⟨#[103,111,110,101]⟩] a7 A.o.rd.row.lt b6 (by show b6<3;omega) (by
      intro c U;simp only[Na,Nb,or_false] at U;rcases U with rfl | rfl | rfl <;> decide)
     have lz:w3.heap.size<n.heap.size:=Mf E9 a7.size;have g1:(b6:Int)<3:=E5;have h:K_ n (n.alloc (.cells #[.string c] 9)):=ah _ _;have F:=Kz h;have G:=Kz (J.o.kept h).own;have M:w.heap.size<=(n.alloc (.cells #[.string c] 9)).heap.size:=(J.o.kept h).kb.size;obtain⟨N,O,P,Q,R⟩:=aP Tryz.gJ;clear d1 a7 s h;go_wp2_with (at_builtin;refine wpList_append_own _ rfl (.tmp 53) (.tmp 59) 26 rfl w.heap.size 9 N _ 1 16 underlying26 O P Q R rfl E8 (.b ob l.length oc) l.length (l.map Value.string) rfl G.o ⟨n.heap.size,0,none⟩ 1 1 [.string c] rfl rfl (kU n c) (ko c) F5 E5 M ?_;intro v' w8 k y _;have S:=Kz (J.o.push F.o k y e8);have T:=rR k E5;clear k y)
     go_ret
     exact OSt.Kj S.o (by rw[MU];exact T) (by rw[MU];simp;omega) E5 E5
    have e1:((z:Int) == 1)=false:=F6;clear h1;by_cases h2:z=2
    .have e2:((z:Int) == 2)=true:=by simp[h2]
     clear h2;go_wp2
     go_loopg [5,8] 11 (λg x5 x8 wr=>∃(i:Nat) (l:List NG),x8= .a (i:Int)/\i+g=11/\l.length<=11/\Hid (∀j,j<i->kG j∈l)/\OSt w wr q a v r (B+1) x5 l/\yL x5 l.length)
     case atStart=>exact⟨0,l,rfl,rfl,E5,Kz (λj Y=>E5),A.o,X.o⟩
     case round=>
      clear A X e7;obtain⟨i,m,rfl,hi,e9,HJ,H,I⟩:=hrel;have⟨f,X⟩:=aH H I;obtain⟨pb,pc,rfl⟩:=I;have g2:i<=m.length:=Db E5 HJ.o;clear H;by_cases d2:(m.length:Int)<11
      .go_wp2_with fail
       refine (vL _ i E5).mono ?_;rintro e w4 ⟨x,rfl,K,a4,k4⟩;have s:=Kz (f.o.kept k4);have HX:=Kz (a4 E5);clear k4 a4;have a6:Hid (Strs w4 (some ⟨pb,0,none⟩) m):=by
        obtain⟨sa,c,e,_,D⟩:=s.o.strs;simp only[MW] at e;obtain⟨rfl,_,_⟩:=e;exact D.strs
       go_wp2_with fail
       refine (tX _ (some ⟨pb,0,none⟩) pc m x E5 a6.o).mono ?_;rintro e t ⟨b5,rfl⟩;rcases b5.cases with⟨rfl,Z⟩|⟨rfl,Z⟩
       .have f0:Hid (∀j,j<i+1->kG j∈m):=λj Y=>by
         by_cases e:j=i
         .rw[e,<-HX.o];exact Z
         .exact HJ.o j E5
        clear Z;go_wp2
        go_roundg (gk-1)
        case measure=>omega
        case rel=>exact⟨i+1,m,F3,E5,e9,f0,s.o,X.o⟩
       .clear Z;go_wp2_with fail
        refine (vL _ i E5).mono ?_;rintro e n ⟨a0,rfl,g3,a4,k7⟩;have f1:=Kz (a4 E5);have b7:=Kz (s.o.kept k7);have h:K_ n (n.alloc (.cells #[.string a0] 9)):=ah _ _;have F:=Kz h;have G:=Kz (b7.o.kept h).own;have M:w.heap.size<=(n.alloc (.cells #[.string a0] 9)).heap.size:=(b7.o.kept h).kb.size;obtain⟨N,O,P,Q,R⟩:=aP Tryz.gJ;clear k7 h a4 s;go_wp2_with (at_builtin;refine wpList_append_own _ rfl (.tmp 73) (.tmp 76) 26 rfl w.heap.size 9 N _ 1 16 underlying26 O P Q R rfl E8 (.b pb m.length pc) m.length (m.map Value.string) rfl G.o ⟨n.heap.size,0,none⟩ 1 1 [.string a0] rfl rfl (kU n a0) (ko a0) F5 E5 M ?_;intro v' w8 k y _;have S:=Kz (b7.o.push F.o k y E5);have T:=rR k E5;clear k y)
        go_roundg (gk-1)
        case measure=>omega
        case rel=>exact⟨i+1,m++ [a0],F3,E5,by rw[MU];simp;omega,Kz (λj Y=>by
         by_cases e:j=i
         .rw[e,<-f1.o];simp
         .exact List.mem_append_left _ (HJ.o j E5)),S.o,by rw[MU];exact T⟩
      .have d3:m.length=11:=E5;have HL:=Kz d3;have g4:11<=pc:=by
        obtain⟨sa,c,e,U,D⟩:=f.o.strs;simp only[MW] at e;obtain⟨_,_,rfl⟩:=e;omega
       have g5:¬(m.length:Int)<11:=d2;clear d3 d2;go_wp2_with fail
       refine (aM _ q a v r (B+1) _ 2 rfl f.o.rd E5 E5 W).mono ?_;rintro e w8 ⟨q8,rfl,g6,d4,d5⟩;have a8:=Kz (f.o.drawn d4 d5);have g7:(10:Int)+ (q8:Int)<=(pc:Int):=E5;clear d4 d5 f;go_wp2
       go_ret
       obtain⟨sa,c,e,U,D⟩:=a8.o.strs;simp only[MW] at e;obtain⟨rfl,_,rfl⟩:=e;have f2:(m.take (10+q8)).length=10+q8:=by rw[MG,HL.o];omega
       exact⟨pb,pc,m.take (10+q8),B+2,by rw[f2];congr 2 <;> omega,E5,E5,λc9 Z=>a8.o.sz c9 (List.mem_of_mem_take Z),D.take _,E5,E5,a8.o.rd,a8.o.kb⟩
    have e2:((z:Int) == 2)=false:=F6;clear h2;go_wp2
    go_ret
    exact OSt.Kj A.o X.o E5 E5 E5
structure jb (m:Nat) (w wr:NI) (rb wb:Nat) (a:NH) (cap:Nat) (bs:List UInt8) (p:Nat) (v:NJ) (L:List Qz):Prop where
 rd:Rd wr rb a cap bs p
 rd0:∃p0,Rd w rb a cap bs p0
 wbl:w.heap.size<=wb
 kb:Xj rb (rb+1) w wr
 row:aD wr wb 25 1
 c0:wr.cell? ⟨wb,0,none⟩=some v
 web:bL wr v L
 tiny:∀d∈L,d.TinyN m
 fr:lm w.heap.size v L
variable {L : List Qz} {bs : List UInt8} {xs : List NJ} {cap m p rb wb : Nat} {a : NH} {v : NJ} {w wr : NI}
theorem fT.fin(h:fT m w wr rb wb a cap bs p v L xs):jb m w wr rb wb a cap bs p v L:=
 ⟨h.rd,h.rd0,h.wbl,h.kb,h.row,h.c0,h.web,h.tiny,lm.gK h.own⟩
variable {n : Nat}
theorem jb.mono(h:jb m w wr rb wb a cap bs p v L)(c:m<=n):jb n w wr rb wb a cap bs p v L:=
 ⟨h.rd,h.rd0,h.wbl,h.kb,h.row,h.c0,h.web,(λd e=>(h.tiny d e).mono c),h.fr⟩
variable {e : Ending} {N p' : Nat} {A0 : NI}
theorem jb.ends{M:Nat}{b:NI}{t:Nat}(h:jb M A0 b rb wb a cap bs p' v L){c:Nat}(k:aD b c 25 1)(l:w.heap.size<=c)(k0:K_ w A0){m:Nat}(n:Rd w rb a cap bs m)
 (q:e= .returned (.agg #[v])) (r:p<=p') (h2:p'<=p+t) (s:L.length<=N):iU M N w (b.setCell ⟨c,0,none⟩ v) rb a cap bs p t e:=by
 have x:=k.same (o:=0) v;have d:Below w.heap.size b (b.setCell ⟨c,0,none⟩ v):=(Below.refl _ _).setCell (p:=⟨c,0,none⟩) l _;have f:Xj rb (rb+1) w b:=⟨h.kb.os.trans k0.os,h.kb.tape.trans k0.tape,h.kb.output.trans k0.output,Mh k0.size h.kb.size,λi j y=>(h.kb.block i (Mf j k0.size) y).trans (k0.block i j)⟩;exact⟨v,L,p',q,r,h2,s,h.tiny,h.web.same x E8 E8 E8 E8,h.rd.below n d f.size,f.below d,h.fr.mono k0.size⟩
variable {c k : Nat} {d : Qz}
theorem bL.put{g o:Nat}{u:NJ}{vs:List NJ}(p:bL w (.b g n c) L)(C:k<L.length)(q:aD w g 88 N)(D:k*3<=o/\o+vs.length<=k*3+3)
 (r:(w.setCells g o vs).rangeAt g (k*3) [.string d.name,.a d.cost,u]) (s:dw w u d.steps):bL (w.setCells g o vs) (.b g n c) (L.set k d):=by
 obtain⟨t,h⟩:=q.setCells vs o;obtain⟨E,F,e,v,x,y⟩:=p;simp only[MW] at e;obtain⟨rfl,rfl,rfl⟩:=e;refine⟨_,c,by rw[Np],by rw[Np];exact v,x,λi a=>?_⟩;rw[Np] at a;obtain⟨j,l,_⟩:=t;by_cases e:i=k
 .subst e;have f:(L.set i d).getD i Qz.zero=d:=by simp[List.getD,a]
  rw[f];exact⟨g,0,j,_,u,rfl,l,by rw[MM];exact r,s.same h E8 E8 E8⟩
 .have f:(L.set k d).getD i Qz.zero=L.getD i Qz.zero:=by simp[List.getD,Ne.symm e]
  rw[f];obtain⟨b,G,H,I,z,m,J,A,B⟩:=y i a;simp only[MV,ND,and_true] at m;obtain⟨rfl,rfl⟩:=m;exact⟨g,0,j,_,z,rfl,l,Mx A _ _ _ (by right;simp;omega),B.same h E8 E8 E8⟩
theorem Ah(a:∀x∈L,x.TinyN m)(b:d.TinyN m):∀x∈L.set k d,x.TinyN m:=λx c=>by
 rcases List.mem_or_eq_of_mem_set c with h|rfl
 .exact a x h
 .exact b
theorem jb.put{g o:Nat}{u:NJ}{vs:List NJ}(h:jb m A0 wr rb wb a cap bs p (.b g n c) L)(j:A0.heap.size<=g)(l:k<L.length)(b:aD wr g 88 N)(q:k*3<=o/\o+vs.length<=k*3+3)
 (r:(wr.setCells g o vs).rangeAt g (k*3) [.string d.name,.a d.cost,u]) (s:dw wr u d.steps) (t:d.TinyN m):jb m A0 (wr.setCells g o vs) rb wb a cap bs p (.b g n c) (L.set k d):=by
 obtain⟨x,v⟩:=h.rd0;have e:Below A0.heap.size wr (wr.setCells g o vs):=Below.setCells' j vs o (Below.refl _ _);obtain⟨_,w⟩:=b.setCells vs o;have f:=h.row.ja w E8;exact⟨h.rd.below v e h.kb.size,h.rd0,h.wbl,h.kb.below e,f.1,(f.2 0).trans h.c0,h.web.put l b q r s,Ah h.tiny t,λi=>h.fr (by rw[Np] at i;exact i)⟩
theorem bL.cells{g:Nat}(i:bL w (.b g n c) L)(j:k<L.length):
  ∃a b,w.rangeAt g (k*3) [.string (L.getD k Qz.zero).name,.a (L.getD k Qz.zero).cost,.slice a (L.getD k Qz.zero).steps.length b]/\dw w (.slice a (L.getD k Qz.zero).steps.length b) (L.getD k Qz.zero).steps:=by
 obtain⟨l,m,e,p,r,q⟩:=i;simp only[MW] at e;obtain⟨rfl,rfl,rfl⟩:=e;obtain⟨s,t,v,x,y,d,z,f,h⟩:=q k j;simp only[MV,ND,and_true] at d;obtain⟨rfl,rfl⟩:=d;obtain⟨a,b,rfl⟩:=h.slice;rw[MM] at f;exact⟨a,b,f,h⟩
theorem zh{b q:Nat}(h:w.cell? ⟨b,q,none⟩=some v):w.rangeAt b q [v]:=λj x a=>by
 match j,a with
 | 0,a=>simp at a;subst a;exact h
 | j+1,a=>simp at a
theorem uy{b q:Nat}{x y z:NJ}(e:w.cell? ⟨b,q,none⟩=some x)(f:w.cell? ⟨b,q+1,none⟩=some y)(h2:w.cell? ⟨b,q+2,none⟩=some z):w.rangeAt b q [x,y,z]:=λj v a=>by
 match j,a with
 | 0,a=>simp at a;subst a;exact e
 | 1,a=>simp at a;subst a;exact f
 | 2,a=>simp at a;subst a;exact h2
 | j+3,a=>simp at a
theorem E_(w:NI)(g o:Nat)(v:NJ):w.setCells g o [v]=w.setCell ⟨g,o,none⟩ v:=rfl
theorem jb.Fj{g:Nat}(h:jb m A0 wr rb wb a cap bs p (.b g n c) L)(j:A0.heap.size<=g)(b:k<L.length)(f:aD wr g 88 N)(r:k*3+3<=N){s:NG}(l:s.size<=300):
  jb m A0 (wr.setCell ⟨g,k*3,none⟩ (.string s)) rb wb a cap bs p (.b g n c) (L.set k ⟨s,(L.getD k Qz.zero).cost,(L.getD k Qz.zero).steps⟩):=by
 obtain⟨t,v,i,q⟩:=h.web.cells b;have e:=h.tiny (L.getD k Qz.zero) (by simp[List.getD,b]);rw[<-E_];refine h.put (d:=⟨s,(L.getD k Qz.zero).cost,(L.getD k Qz.zero).steps⟩) j b f ⟨Me _,E9⟩ ?_ q ⟨l,e.cost,e.steps,e.each⟩;rw[E_];exact uy (aW f.row E5 _) ((Xk E5 _).trans (i 1 _ rfl)) ((Xk E5 _).trans (i 2 _ rfl))
theorem jb.GQ{g:Nat}(h:jb m A0 wr rb wb a cap bs p (.b g n c) L)(j:A0.heap.size<=g)(e:k<L.length)(f:aD wr g 88 N)(z:k*3+3<=N){cost:Int}{u:NJ}{b:List Xq}(l:dw wr u b)(r: -1000<=cost/\cost<=1000)(t:b.length<=21)(w:∀s∈b,s.TinyN m):
  jb m A0 (wr.setCells g (k*3+1) [.a cost,u]) rb wb a cap bs p (.b g n c) (L.set k ⟨(L.getD k Qz.zero).name,cost,b⟩):=by
 obtain⟨A,B,x,_⟩:=h.web.cells e;have y:=h.tiny (L.getD k Qz.zero) (by simp[List.getD,e]);refine h.put (d:=⟨(L.getD k Qz.zero).name,cost,b⟩) j e f ⟨E5,E9⟩ ?_ l ⟨y.name,r,t,w⟩;have i:=Mi wr g (k*3+1) [.a cost,u] (f.row.there F6);exact uy (Mx (zh (q:=k*3) (v:= .string (L.getD k Qz.zero).name) (by have:=x 0 _ rfl;rwa [M_] at this)) _ _ _ (by right;simp only[MX,List.length_nil];omega) 0 _ rfl) (i 0 _ rfl) (i 1 _ rfl)
theorem jb.setNode{g:Nat}(h:jb m A0 wr rb wb a cap bs p (.b g n c) L)(e:A0.heap.size<=g)(f:k<L.length)(b:aD wr g 88 N)(l:k*3+3<=N){u:NJ}(i:dw wr u d.steps)(j:d.TinyN m):
  jb m A0 (wr.setCells g (k*3) [.string d.name,.a d.cost,u]) rb wb a cap bs p (.b g n c) (L.set k d):=
 h.put e f b ⟨Me _,E9⟩ (Mi wr g (k*3) _ (b.row.there F6)) i j
theorem fT.tZ(h:fT m w wr rb wb a cap bs p v L xs)(k:0<L.length):∃g c,v= .b g L.length c/\w.heap.size<=g/\aD wr g 88 (c*3)/\L.length<=c:=by
 rcases h.own.2 with⟨_,e⟩|⟨g,c,b,e,d,f,i,_,j,_⟩
 .omega
 .exact⟨g,c,e,d,⟨b,f,j⟩,i⟩
theorem dL{P:Program}{e:Func}{R:Ending->NI->Prop}{a:Act}{p q:Tmp}{c:TypeId}{b:Nat}(cs:List NJ)(d:TypeDesc)(v:NJ)(h:e.results= #[.cell p c,.tmp q])
 (f:a.tmps.getD p undef= .c b) (i:w.rangeAt b 0 cs) (j:P.underlying c=some d) (k:d.isRow=true) (hi:(P.info? c).map (·.size)=some cs.length)
 (l:a.tmps.getD q undef=v) (m:a.defers=[]) (n:R (.returned (.tuple #[.agg cs.toArray,v])) w):bodyPost P e R .ret a w:=by
 refine bodyPost_ret ?_ m n;have r:a.tmps[p]?.getD undef= .c b:=by simpa using f
 have s:a.tmps[q]?.getD undef=v:=by simpa using l
 simp only[results,h];simp[r,s,asAddr,run_loadVar_mid w b 0 c cs d i j k hi]
def Jh(l:List Qz)(p:Nat):List Qz:=l.take p++l.drop (p+1)
def bV(key:List UInt8)(d:Qz):Bool:= !(d.name.toList == key)
theorem tV(f:Qz->Bool)(l:List Qz)(k:Nat)(h:k<l.length):(l.take (k+1)).filter f= (l.take k).filter f++ (if f (l.getD k Qz.zero)=true then [l.getD k Qz.zero] else []):=by
 rw[Ml h,List.filter_append]
 congr 1
 have e:l.getD k Qz.zero=l[k]:=by simp[List.getD,h]
 rw[e];by_cases b:f l[k]=true
 .simp[b]
 .simp[b]
theorem mK(d:Qz)(a:NH)(c:Nat):∀u∈([.string d.name,.a d.cost,.slice a d.steps.length c]:List NJ),u.oneCell'=true:=by
 intro u b;simp only[Na,Nb,or_false] at b;rcases b with rfl | rfl | rfl <;> rfl
variable {mN : Nat}
theorem zF(w:NI)(cost:Int)(a:NH)(d:Nat)(l:List Xq)(i:mN<=1000)(n:l.length<=21)(j:∀s∈l,s.TinyN mN)(k:j_ w a l):
  Calls prog 193 #[.agg #[.a cost,.slice a l.length d]] w λe w'=>∃b c,e= .returned (.agg #[.a cost,.slice b l.length c])/\dw w' (.slice b l.length c) l/\K_ w w':=by
 refine (CK w cost a d l E5 i j k).mono ?_;rintro e w' ⟨v,q,rfl,f,h,m⟩;obtain⟨b,c,rfl⟩:=ay f;exact⟨b,c,rfl,(StW.gK f h.packed h.nV).g,m⟩
structure Ep (w wr w6:NI) (a0:NH) (n cap:Nat):Prop where
 kept:K_ w w6
 size:w.heap.size+3<=w6.heap.size
 arg:w6.cell? ⟨w.heap.size,0,none⟩=some (.slice a0 n cap)
 res:aD w6 (w.heap.size+1) 25 1
 out:aD w6 (w.heap.size+2) 25 1
 below:Below (w.heap.size+3) wr w6
variable {cv : Nat} {av : NH} {w6 : NI}
theorem Ep.of{W:NI}{c:NH}(f:K_ w wr)(h:w.heap.size+3<=wr.heap.size)(b:K_ wr W)
 (i:wr.cell? ⟨w.heap.size,0,none⟩=some (.slice c n cap)) (j:aD wr (w.heap.size+1) 25 1) (k:aD wr (w.heap.size+2) 25 1)
 (d:W.ownsRow (w.heap.size+3) 88 3 (.slice av m cv) m xs) (e:W.grownBy w6 (Value.slice av m cv).ownBlock):Ep w wr w6 c n cap:=by
 have q:=b.size;have a:Below (w.heap.size+3) wr w6:=(Below.mono b E5).trans (Below.grown (Below.refl _ _) e E5 (λg l=>(d.lt g l).1));refine⟨aK (f.trans b) E5 d e,Mh h a.size, ?_,j.block (a.block _ E5),k.block (a.block _ E5),a⟩;rw[Below.cell a (p:=⟨w.heap.size,0,none⟩) F7];exact i
variable {l : List Qz} {ca : Nat}
theorem El{W w2:NI}{base:Nat}{a:NH}(c:K_ wr W)(e:K_ w2 W)(f:dx wr xs l)(h:dw w2 (.slice a d.steps.length ca) d.steps)
 (i:W.ownsRow base 88 3 (.slice av m cv) m xs) (j:W.grownBy w6 (Value.slice av m cv).ownBlock):dx w6 (xs++ [.string d.name,.a d.cost,.slice a d.steps.length ca]) (l++ [d]):=by
 have b:aC 88 W w6:=aC.aI i j;exact (f.same ((aC.ax c).trans b) E8 E8 E8).snoc (h.same ((aC.ax e).trans b) E8 E8 E8)
theorem rM(w:NI)(t:NH)(r:Nat)(l:List Qz)(b:NG)(b6:mN<=1000)(hl:l.length<=1000)(hs:∀d∈l,d.TinyN mN)(hS:sO w t l):
  Calls prog 162 #[.agg #[.slice t l.length r],.string b] w λe w'=>∃a c s base,e= .returned (.agg #[.slice a (l.filter (bV b.toList)).length c])/\w.heap.size<=base/\w'.ownsRow base 88 3 (.slice a (l.filter (bV b.toList)).length c) (l.filter (bV b.toList)).length s/\dx w' s (l.filter (bV b.toList))/\K_ w w':=by
 go_enter func162,ntmps162
 go_wp2
 have k0:K_ w (((w.alloc (.cells #[.slice t l.length r] 25)).alloc (.cells #[M0] 25)).alloc (.cells #[M0] 25)):=((ah _ _).alloc _).alloc _;go_loopw [6] (λM wr=>∃(k m:Nat) (f:NH) (h:Nat) (s:List NJ),k<=l.length/\M= .a k/\K_ w wr/\w.heap.size+3<=wr.heap.size/\wr.cell? ⟨w.heap.size,0,none⟩=some (.slice t l.length r)/\aD wr (w.heap.size+1) 25 1/\aD wr (w.heap.size+2) 25 1/\
   wr.cell? ⟨w.heap.size+2,0,none⟩=some (.slice f m h)/\m= ((l.take k).filter (bV b.toList)).length/\wr.ownsRow (w.heap.size+3) 88 3 (.slice f m h) m s/\dx wr s ((l.take k).filter (bV b.toList))) (λM _=>l.length-(intOf M).toNat)
 case atStart=>
  have G:=X_ ((w.alloc (.cells #[.slice t l.length r] 25)).alloc (.cells #[M0] 25)) #[M0] 25;simp only[MS] at G;refine⟨0,0,none,0,[],Mg _,rfl,k0, ?_, ?_, ?_, ?_,G 0 _ rfl,rfl,Nc _ _ _ _,dx.nil _⟩
  .simp only[MS];omega
  .rw[K_.cell (w:=w.alloc (.cells #[.slice t l.length r] 25)) ((ah _ _).alloc _) E9];exact X_ w _ _ 0 _ rfl
  .exact aD.kept (by have:=aD.made (w.alloc (.cells #[.slice t l.length r] 25)) #[M0] 25;simpa using this) (ah _ _)
  .have:=aD.made ((w.alloc (.cells #[.slice t l.length r] 25)).alloc (.cells #[M0] 25)) #[M0] 25;simpa using this
 case round=>
  clear k0;obtain⟨k,m,f,h,s,hk,rfl,x,hz,H,a0,a1,N,O,a2,hP⟩:=hrel;have d5:w.heap.size<wr.heap.size:=E5;have⟨z,a3,I,J,L⟩:=iZ a0 a1 a2 hP O;have d6:m<=l.length:=by rw[O];exact Mh (List.length_filter_le _ _) G9
  clear a0 a1 a2 hP O;by_cases P:k<l.length
  .obtain⟨B,i,Q,R,b7,a4,a5,a6⟩:=hS k P;have A:=x.range a4 a5;have a7:=a6.kept x;subst b7;have d7:B<wr.heap.size:=Mf a4 x.size;clear a5 a6;have S:=hs (l.getD k Qz.zero) (by simp[List.getD,P]);have T:=tV (bV b.toList) l k P;obtain⟨d,a8⟩:=aj (l.getD k Qz.zero);rw[<-a8] at A a7 S T;have a9:=Kz T;have U:=A 0 _ rfl;have c1:=A 1 _ rfl;have c2:=A 2 _ rfl;rw[M_] at U;clear A a8 T;cases b0:(d.name.toList == b.toList)
   .have C:Hid (∀w',Below (w.heap.size+3) wr w'->w'.cell? ⟨w.heap.size+2,0,none⟩=some (.slice f m h)/\w'.cell? ⟨w.heap.size,0,none⟩=some (.slice (some ⟨B,i,none⟩) l.length r)/\w'.cell? ⟨B,i+k*3,none⟩=some (.string d.name)/\w'.cell? ⟨B,i+k*3+1,none⟩=some (.a d.cost)/\w'.cell? ⟨B,i+k*3+2,none⟩=some (.slice Q d.steps.length R)):=λw' D=>⟨(Below.cell D (p:=⟨w.heap.size+2,0,none⟩) E9).trans N,(Below.cell D (p:=⟨w.heap.size,0,none⟩) F7).trans H,(Below.cell D (p:=⟨B,i+k*3,none⟩) F7).trans U,(Below.cell D (p:=⟨B,i+k*3+1,none⟩) F7).trans c1,(Below.cell D (p:=⟨B,i+k*3+2,none⟩) F7).trans c2⟩
    have d8:w.heap.size+2<wr.heap.size:=E5;obtain⟨b8,b9,c0,c3,c4⟩:=info_parts Tryz.mP;go_wp2
    refine Qk.region F4 (λw'=>w'.cell? ⟨w.heap.size+2,0,none⟩=some (.slice f m h)/\w'.cell? ⟨w.heap.size,0,none⟩=some (.slice (some ⟨B,i,none⟩) l.length r)/\w'.cell? ⟨B,i+k*3,none⟩=some (.string d.name)/\w'.cell? ⟨B,i+k*3+1,none⟩=some (.a d.cost)/\w'.cell? ⟨B,i+k*3+2,none⟩=some (.slice Q d.steps.length R)) 19 ⟨N,H,U,c1,c2⟩ (λj=>?_);refine au 0 j ?_;refine au 4 j ?_;refine au 8 j ?_;refine ae 12 j ?_;refine ae 13 j ?_;refine aG 14 (λK n=>?_);go_simp
    go_at_call 193
    refine (zF _ d.cost Q R d.steps b6 S.steps S.each (a7.kept I6)).mono ?_;rintro e q ⟨E,F,rfl,b1,k2⟩;have V:K_ wr q:=K_.trans I6 k2;have b2:Below (w.heap.size+3) wr q:=Below.mono V E5;have d9:=V.size;have e0:w.heap.size+2<q.heap.size:=E5;have c5:=Kz b1;clear b1 k2;dsimp only;refine n.out _ _ (λ_=>C.o q b2) ?_;clear n K j;have j:=C.o q b2;try simp only[upP]
    refine ae 15 j ?_;refine ai 16 (λK n=>?_);go_simp
    have y:K_ wr (q.alloc (.cells #[.string d.name,.a d.cost,.slice E d.steps.length F] 88)):=V.alloc _;refine af n (λ_=>C.o _ (Below.mono y E5)) ?_;clear n K j;refine ai 17 (λK n=>?_);refine step_append_lies _ rfl (.tmp 24) (.tmp 39) 23 rfl (w.heap.size+3) 88 b8 _ 3 48 underlying23 b9 c0 c3 c4 rfl E8 (.slice f m h) m s F8 (ak I.o y) ⟨q.heap.size,0,none⟩ 1 1 [.string d.name,.a d.cost,.slice E d.steps.length F] F8 rfl (λc6 u hu=>by rw[MZ];exact X_ q #[.string d.name,.a d.cost,.slice E d.steps.length F] 88 c6 u (by simpa using hu)) (mK d E F) E5 F5 E5 F6 _ rfl ?_;intro g c7 w6 b3 W c8 e1;have b4:K_ q (q.alloc (.cells #[.string d.name,.a d.cost,.slice E d.steps.length F] 88)):=ah _ _;have X:=ak I.o y;have Y:=Kz (Ep.of x hz y H z.o a3.o X W);have c9:=Kz (El y b4 J.o c5.o X W);have d0:=Kz b3;have b5:Below (w.heap.size+3) wr w6:=Y.o.below;have Z:=Y.o.out.row.at (i:=0) E5;have e2:=Z.2;obtain⟨vo,e3⟩:=Z.1;clear Z y b4 X b3 W c8;refine af n (λ_=>C.o _ b5) ?_;clear n K;have j:=C.o _ b5;refine ae 18 j ?_;refine ai 19 (λK n=>?_);go_simp
    refine af n (λd1=>Nv rfl d1) ?_;clear n K;refine aF ?_;go_wp2
    go_roundw
    case rel=>
     have v:=Y.o;have ef:(l.take (k+1)).filter (bV b.toList)= (l.take k).filter (bV b.toList)++ [d]:=by rw[a9.o,Nt (by simp[bV,b0])]
     refine⟨k+1,m+1,_,c7,_,E5,F3,v.kept.setCell F7 _,by rw[size_setCell];exact v.size, ?_,v.res.block (Below.heap_setCell _ _ _ _ E9),v.out.set _,aW v.out.row E5 _,by rw[ef,MU,<-L.o];rfl,bG d0.o E9 _, ?_⟩
     .rw[ME _ _ _ _ E9];exact v.arg
     .rw[ef];exact c9.o.same (v.out.same _) E8 E8 E8
    case measure=>simp[intOf];omega
   .go_wp2
    go_roundw
    case rel=>
     have e:(l.take (k+1)).filter (bV b.toList)= (l.take k).filter (bV b.toList):=by rw[a9.o,Nu (by simp[bV,b0])];simp
     exact⟨k+1,m,f,h,s,E5,F3,x,hz,H,z.o,a3.o,N,by rw[e];exact L.o,I.o,by rw[e];exact J.o⟩
    case measure=>simp[intOf];omega
  .have d2:k=l.length:=E5;subst d2;rw[MN] at J L;obtain⟨⟨_,x0⟩,g0⟩:=z.o.row.at (i:=0) E5;go_wp2
   have hR:=Mi wr (w.heap.size+1) 0 [.slice f m h] (z.o.row.there (o:=0) (m:=1) (Me _));have G:=bG I.o (p:=⟨w.heap.size+1,0,none⟩) E9 (.slice f m h);have d3:=J.o.same (z.o.same (o:=0) (.slice f m h)) E8 E8 E8;have d4:=L.o;subst d4;exact Zx [.slice f _ h] _ results162 rfl hR underlying25 rfl Tryz.lT rfl ⟨f,h,s,w.heap.size+3,rfl,E5,G,d3,x.setCell E9 _⟩
theorem xN(h:bv l 0):fP l:=by
 have a:¬iD l:=by
  rcases h with⟨_,e⟩|⟨_,_,e⟩|⟨_,_,_,e⟩|⟨_,_,_,_,e⟩|⟨_,_,b,_,_⟩
  .omega
  .omega
  .omega
  .omega
  .exact b
 refine Cy λi c=>?_
 cases d:Op.bytesLess (nameAt l i) (nameAt l (i+1))
 .exact Nv ⟨i,c,d⟩ a
 .rfl
theorem Dj(b:fP l){j:Nat}(d:p<l.length)(f:j<l.length)(e:nameAt l j=nameAt l p):j=p:=by
 by_cases h:j=p
 .exact h
 .rcases Nat.lt_or_gt_of_ne h with a|a
  .have:=b j p a d;rw[e,dO] at this;cases this
  .have:=b p j a f;rw[e,dO] at this;cases this
variable {key : List UInt8}
theorem DX(k:fP l)(a:p<l.length)(e:nameAt l p=key):l.filter (bV key)=Jh l p:=by
 have h:∀j (b:j<l.length),j≠p->bV key l[j]=true:=λj b m=>by
  have c:nameAt l j=l[j].name.toList:=by unfold nameAt;simp[List.getD,b]
  simp only[bV,Bool.not_eq_true',beq_eq_false_iff_ne];intro n;exact m (Dj k a b (by rw[c,n,e]))
 have q:bV key l[p]=false:=by
  have c:nameAt l p=l[p].name.toList:=by unfold nameAt;simp[List.getD,a]
  simp[bV,<-c,e]
 have r:l=l.take p++ (l[p] :: l.drop (p+1)):=by
  rw[<-Nr a,Nk]
 have s:(l.take p).filter (bV key)=l.take p:=List.filter_eq_self.2 λt d=>by
  obtain⟨i,f,rfl⟩:=Ms d;rw[MG] at f;rw[MQ];exact h i E5 E5
 have v:(l.drop (p+1)).filter (bV key)=l.drop (p+1):=List.filter_eq_self.2 λt d=>by
  obtain⟨i,f,rfl⟩:=Ms d;rw[List.length_drop] at f;rw[List.getElem_drop];exact h _ E5 E5
 unfold Jh
 conv=>lhs;rw[r]
 rw[List.filter_append,List.filter_cons_of_neg (by rw[q];simp),s,v]
def jG(key:List UInt8)(d:Qz):Bool:=Op.bytesLess d.name.toList key
def jY(key:List UInt8)(d:Qz):Bool:=Op.bytesLess key d.name.toList
def lq(l:List Qz)(d:Qz):List Qz:=l.filter (jG d.name.toList)++d :: l.filter (jY d.name.toList)
theorem xm{x y:List UInt8}(h:Op.bytesLess x y=true):Op.bytesLess y x=false:=by
 cases b:Op.bytesLess y x
 .rfl
 .have:=eY _ _ _ h b;rw[dO] at this;cases this
theorem iw{j:Nat}(h:j<l.length):nameAt l j=l[j].name.toList:=by unfold nameAt;simp[List.getD,h]
theorem Place.less(h:Place l key p):l.filter (jG key)=l.take p:=by
 have c:(l.take p).filter (jG key)=l.take p:=List.filter_eq_self.2 λd a=>by
  obtain⟨i,b,rfl⟩:=Ms a;rw[MG] at b;rw[MQ];have:=h.before i E5;rw[iw E5] at this;exact this
 have e:(l.drop p).filter (jG key)=[]:=List.filter_eq_nil_iff.2 λd a=>by
  obtain⟨i,b,rfl⟩:=Ms a;rw[List.length_drop] at b;rw[List.getElem_drop];have:=h.behind (p+i) E5 E5;rw[iw E5] at this;simp[jG,this]
 conv=>lhs;rw[<-Nk p l]
 rw[List.filter_append,c,e,List.append_nil]
theorem Place.ahead(h:Place l key p):(l.take p).filter (jY key)=[]:=List.filter_eq_nil_iff.2 λe b=>by
 obtain⟨i,d,rfl⟩:=Ms b;rw[MG] at d;rw[MQ];have:=h.before i E5;rw[iw E5] at this;simp[jY,xm this]
theorem Place.more(_:fP l)(h:Place l key p)(c:∀j,j<l.length->nameAt l j≠key):l.filter (jY key)=l.drop p:=by
 have d:(l.drop p).filter (jY key)=l.drop p:=List.filter_eq_self.2 λk e=>by
  obtain⟨i,f,rfl⟩:=Ms e;rw[List.length_drop] at f;rw[List.getElem_drop];have a:=h.behind (p+i) E5 E5;have b:=c (p+i) E5;rw[iw E5] at a b;exact qC _ _ a b
 conv=>lhs;rw[<-Nk p l]
 rw[List.filter_append,h.ahead,d,List.nil_append]
theorem Place.Kb(c:fP l)(h:Place l key p)(b:p<l.length)(e:nameAt l p=key):l.filter (jY key)=l.drop (p+1):=by
 have f:(l.drop (p+1)).filter (jY key)=l.drop (p+1):=List.filter_eq_self.2 λd j=>by
  obtain⟨i,k,rfl⟩:=Ms j;rw[List.length_drop] at k;rw[List.getElem_drop];have a:=c p (p+1+i) E5 E5;rw[e,iw E5] at a;exact a
 have a:l.drop p=l[p] :: l.drop (p+1):=Nr b;have m:jY key l[p]=false:=by
  rw[iw b] at e;simp[jY,e,dO]
 conv=>lhs;rw[<-Nk p l]
 rw[List.filter_append,h.ahead,a,List.filter_cons_of_neg (by rw[m];simp),f,List.nil_append]
theorem IJ(a:List UInt8)(q:fP l):∃p,Place l a p:=by
 have:∀n,n<=l.length->∃p,p<=n/\(∀j,j<p->Op.bytesLess (nameAt l j) a=true)/\∀j,p<=j->j<n->Op.bytesLess (nameAt l j) a=false:=by
  intro n
  induction n with
  | zero=>exact λ_=>⟨0,Me _,λj c=>aO c,λj _ c=>aO c⟩
  | succ n ih=>
   intro s;obtain⟨p,t,f,k⟩:=ih E5;by_cases h:p=n
   .subst h;cases d:Op.bytesLess (nameAt l p) a
    .refine⟨p,E5,f,λj b e=>?_⟩;obtain rfl:j=p:=E5;exact d
    .refine⟨p+1,Me _,λj c=>?_,λj b e=>E5⟩;by_cases h:j=p
     .rw[h];exact d
     .exact f j E5
   .refine⟨p,E5,f,λj b e=>?_⟩;by_cases r:j=n
    .subst r;cases d:Op.bytesLess (nameAt l j) a
     .rfl
     .have i:=q p j E5 E5;have m:=k p (Me _) E5;rw[eY _ _ _ i d] at m;cases m
    .exact k j b E5
 obtain⟨p,b,e,i⟩:=this l.length (Me _);exact⟨p,b,e,i⟩
theorem mZ(a:List UInt8)(b:fP l):l.filter (bV a)=l.filter (jG a)++l.filter (jY a):=by
 obtain⟨p,c⟩:=IJ a b;by_cases h:p<l.length/\nameAt l p=a
 .rw[DX b h.1 h.2,c.less,c.Kb b h.1 h.2]
  rfl
 .have f:∀j,j<l.length->nameAt l j≠a:=λj i e=>by
   have:=c.only b i e;subst this;exact h ⟨i,e⟩
  rw[c.less,c.more b f,Nk];refine List.filter_eq_self.2 λd m=>?_
  obtain⟨n,k,rfl⟩:=Ms m;have:=f n k;rw[iw k] at this;simpa[bV] using this
def oQ(l:List Qz)(d:Qz):Nat:=(l.filter (jG d.name.toList)).length
theorem rf(a:fP l):(lq l d).length= (l.filter (bV d.name.toList)).length+1:=by
 rw[mZ _ a];simp[lq];omega
theorem FR(a:fP l):oQ l d<=(l.filter (bV d.name.toList)).length:=by
 rw[mZ _ a];simp[oQ]
theorem Ie(l:List Qz)(d:Qz):(lq l d).getD (oQ l d) Qz.zero=d:=by simp[lq,oQ,List.getD]
theorem FO{x:Qz}(h:x∈lq l d):x=d\/x∈l:=by
 simp only[lq,Mo,Na,List.mem_filter] at h;rcases h with h|h|h
 .exact .inr h.1
 .exact .inl h
 .exact .inr h.1
theorem Fu(h:m<l.length):l.take (m+1)=l.take m++ [l.getD m Qz.zero]:=by
 rw[Ml h];simp[List.getD,h]
def Bd(l:List Qz)(d:Qz)(c:Int)(r:List Qz):Prop:=
 (¬bv l 0/\c=1/\r=[])\/(bv l 0/\(¬je d.name\/¬gM ⟨d.cost,d.steps⟩)/\c=2/\r=[])\/(bv l 0/\je d.name/\gM ⟨d.cost,d.steps⟩/\60<(lq l d).length/\c=3/\r=[])\/
 (bv l 0/\je d.name/\gM ⟨d.cost,d.steps⟩/\(lq l d).length<=60/\c=0/\r=lq l d)
theorem Bd.mem{r:List Qz}{c:Int}(h:Bd l d c r){x:Qz}(a:x∈r):x=d\/x∈l:=by
 rcases h with⟨_,_,rfl⟩|⟨_,_,_,rfl⟩|⟨_,_,_,_,_,rfl⟩|⟨_,_,_,_,_,rfl⟩
 .cases a
 .cases a
 .cases a
 .exact FO a
theorem Bd.len{r:List Qz}{c:Int}(h:Bd l d c r):r.length<=60:=by
 rcases h with⟨_,_,rfl⟩|⟨_,_,_,rfl⟩|⟨_,_,_,_,_,rfl⟩|⟨h,_,_,b,_,rfl⟩
 .simp
 .simp
 .simp
 .exact b
def lG(l:List Qz)(d:Qz)(w w':NI)(e:Ending):Prop:=
 ∃a cap c r xs base,e= .returned (.tuple #[.agg #[.slice a r.length cap],.a c])/\Bd l d c r/\w.heap.size<=base/\w'.ownsRow base 88 3 (.slice a r.length cap) r.length xs/\dx w' xs r/\K_ w w'
variable {w' : NI}
theorem lG.none(c:Int)(a:e= .returned (.tuple #[.agg #[M0],.a c]))(h:Bd l d c [])(k:K_ w w'):lG l d w w' e:=⟨Option.none,0,c,[],[],_,a,h,Me _,Nc _ _ _ _,dx.nil _,k⟩
theorem aC.sj{t:TypeId}{b:Nat}(h:Xj b (b+1) w w')(d:aD w b t n):aC t w w':=by
 intro x i u j f a;rw[h.block x (aN a) ?_]
 .exact a
 .obtain⟨k,c,_⟩:=d;by_cases e:x=b
  .subst e;rw[a] at c;simp only[MV,Obj.cells.injEq] at c;exact Nv c.2.1 f
  .omega
theorem D_(f:fP l)(k:Nat)(e:k<(l.filter (bV d.name.toList)).length):
  (k<oQ l d->Op.bytesLess ((l.filter (bV d.name.toList)).getD k Qz.zero).name.toList d.name.toList=true/\(lq l d).getD k Qz.zero= (l.filter (bV d.name.toList)).getD k Qz.zero)/\
  (oQ l d<=k->(Op.bytesLess ((l.filter (bV d.name.toList)).getD k Qz.zero).name.toList d.name.toList=false/\(((l.filter (bV d.name.toList)).getD k Qz.zero).name.toList == d.name.toList)=false)/\(lq l d).getD (k+1) Qz.zero= (l.filter (bV d.name.toList)).getD k Qz.zero):=by
 rw[mZ _ f] at e⊢;unfold lq oQ;rw[MU] at e;constructor
 ·intro h;have a:(l.filter (jG d.name.toList)++l.filter (jY d.name.toList)).getD k Qz.zero= (l.filter (jG d.name.toList))[k]:=by simp[List.getD,Ni h,h]
  rw[a];refine⟨?_,by simp[List.getD,Ni h,h]⟩;have:=Mq h;exact (List.mem_filter.1 this).2
 ·intro h;have b:k-(l.filter (jG d.name.toList)).length<(l.filter (jY d.name.toList)).length:=by omega
  have a:(l.filter (jG d.name.toList)++l.filter (jY d.name.toList)).getD k Qz.zero= (l.filter (jY d.name.toList))[k-(l.filter (jG d.name.toList)).length]:=by simp[List.getD,Nj h,b]
  rw[a];have c:Op.bytesLess d.name.toList (l.filter (jY d.name.toList))[k-(l.filter (jG d.name.toList)).length].name.toList=true:=(List.mem_filter.1 (Mq b)).2;refine⟨⟨xm c, ?_⟩, ?_⟩
  ·rw[beq_eq_false_iff_ne];intro i;rw[i,dO] at c;cases c
  have j:k+1-(l.filter (jG d.name.toList)).length= (k-(l.filter (jG d.name.toList)).length)+1:=by omega
  simp[List.getD,Nj (show (l.filter (jG d.name.toList)).length<=k+1 by omega),j,b]
def JP(l:List Qz)(d:Qz):List Qz:=l.filter (bV d.name.toList)
theorem dx.at{base:Nat}{h:NH}{q:Nat}(d:w.ownsRow base 88 3 (.slice h n q) n xs)(i:dx w xs l)(r:k<l.length):
  ∃g f fr a c,h=some ⟨g,0,none⟩/\w.heap[g]? =some (Obj.cells f 88 fr)/\w.cell? ⟨g,k*3,none⟩=some (.string (l.getD k Qz.zero).name)/\w.cell? ⟨g,k*3+1,none⟩=some (.a (l.getD k Qz.zero).cost)/\
   w.cell? ⟨g,k*3+2,none⟩=some (.slice a (l.getD k Qz.zero).steps.length c)/\dw w (.slice a (l.getD k Qz.zero).steps.length c) (l.getD k Qz.zero).steps:=by
 have v:n=l.length:=by have x:=d.1;have y:=i.1;omega
 rcases d.2 with⟨_,z⟩|⟨g,A,f,e,B,s,C,_,_,_⟩
 .omega
 .simp only[MW] at e;obtain⟨rfl,_,rfl⟩:=e;obtain⟨D,e,m⟩:=i.2 k r;obtain⟨a,c,rfl⟩:=m.slice;have b:∀j u,((xs.drop (k*3)).take 3)[j]? =some u->j<3->w.cell? ⟨g,k*3+j,none⟩=some u:=λj u p t=>by
   rw[List.getElem?_take,Nt t,List.getElem?_drop] at p;have:=d.cells (g:=g) rfl _ _ p;rw[MZ,MM] at this;exact this
  rw[e] at b;exact⟨g,f,_,a,c,rfl,s,b 0 _ rfl E8,b 1 _ rfl E8,b 2 _ rfl E8,m⟩
structure iM (wc wr:NI) (outb:Nat) (T:List Qz) (m:Nat) (av:NH) (cv:Nat) (xs:List NJ):Prop where
 kb:Xj outb (outb+1) wc wr
 row:aD wr outb 25 1
 cell:wr.cell? ⟨outb,0,none⟩=some (.slice av m cv)
 own:wr.ownsRow wc.heap.size 88 3 (.slice av m cv) m xs
 pack:dx wc xs (T.take m)
variable {T : List Qz} {outb : Nat} {wc : NI}
theorem iM.grown{W:NI}(h:iM wc wr outb T m av cv xs)(a:K_ wr W)(c:W.grownBy w6 (Value.slice av m cv).ownBlock):Below wc.heap.size wr w6:=
 have e:=h.kb.size;have f:=a.size
 (Below.mono a E5).trans (Below.grown (Below.refl _ _) c E5 (λg d=>((ak h.own a).lt g d).1))
theorem iM.next{W:NI}{a:Nat}{b:NH}{x:Qz}{c:NH}{d:Nat}(h:iM wc wr outb T m av cv xs)(e:outb<wc.heap.size)(j:K_ wr W)(k:W.grownBy w6 (Value.slice av m cv).ownBlock)
 (l:w6.ownsRow wc.heap.size 88 3 (.slice b (m+1) a) (m+1) (xs++ [.string x.name,.a x.cost,.slice c x.steps.length d])) (n:m<T.length) (p:T.getD m Qz.zero=x) (q:dw wc (.slice c x.steps.length d) x.steps):
  iM wc (w6.setCell ⟨outb,0,none⟩ (.slice b (m+1) a)) outb T (m+1) b a (xs++ [.string x.name,.a x.cost,.slice c x.steps.length d]):=by
 have f:=h.grown j k;have i:aD w6 outb 25 1:=h.row.block (f.block outb e);refine⟨(h.kb.below f).setCell (Me _) (MJ _) _,i.set _,aW i.row E5 _,bG l e _, ?_⟩;rw[Fu n,p];exact h.pack.snoc q
theorem iM.drewN(h:iM wc wr outb T m av cv xs)(n:Nat):iM wc (wr.drewN n) outb T m av cv xs:=
 ⟨⟨h.kb.os,h.kb.tape,h.kb.output,h.kb.size,h.kb.block⟩,h.row,h.cell,h.own,h.pack⟩
theorem iM.fin{b:NI}{a:Nat}(h:iM wc b outb T n av cv xs)(j:aD wc outb 25 1)(c:aD wc a 25 1)(x:a≠outb)(K:K_ w wc)(k:w.heap.size<=a)(h2:w.heap.size<=outb)
 (q:T.length=n) (e:T=lq l d) (c1:bv l 0) (r:je d.name) (c3:gM ⟨d.cost,d.steps⟩) (s:n<=60):
  (b.setCell ⟨a,0,none⟩ (.slice av n cv)).rangeAt a 0 [.slice av n cv]/\lG l d w (b.setCell ⟨a,0,none⟩ (.slice av n cv)) (.returned (.tuple #[.agg #[.slice av n cv],.a 0])):=by
 have f:aD b a 25 1:=c.block (h.kb.block a c.lt E5);have t:=bG h.own (p:=⟨a,0,none⟩) c.lt (.slice av n cv);have i:=h.pack;rw[MO E5] at i;have v:=(i.same (aC.sj h.kb j) E8 E8 E8).same (f.same (o:=0) (.slice av n cv)) E8 E8 E8;refine⟨Mi b a 0 [.slice av n cv] (f.row.there (o:=0) (m:=1) (Me _)), ?_⟩;subst q;exact⟨av,cv,0,T,xs,wc.heap.size,rfl,.inr (.inr (.inr ⟨c1,r,c3,e ▸ s,rfl,e⟩)),K.size,t,v,(h.kb.kept K h2).setCell k _⟩
structure LA (W6 Wl:NI) (d:Qz) (oneb:Nat) (a2:NH) (ca2:Nat):Prop where
 kept:K_ W6 Wl
 ge:W6.heap.size<=oneb
 lt:oneb<Wl.heap.size
 name:Wl.cell? ⟨oneb,0,none⟩=some (.string d.name)
 cost:Wl.cell? ⟨oneb,1,none⟩=some (.a d.cost)
 steps:Wl.cell? ⟨oneb,2,none⟩=some (.slice a2 d.steps.length ca2)
 one:dw Wl (.slice a2 d.steps.length ca2) d.steps
def LX(W6:NI)(d:Qz)(s8:NJ)(Wl:NI):Prop:=∃oneb a2 ca2,s8= .c oneb/\LA W6 Wl d oneb a2 ca2
theorem IX(w:NI)(a0:NH)(c0:Nat)(l:List Qz)(d:Qz)(aA:NH)(ca:Nat)(d2:mN<=1000)(hl:l.length<=1000)(hs:∀d∈l,d.TinyN mN)(e8:d.TinyN mN)(hS:sO w a0 l)(hN:bT w a0 l)(hA:j_ w aA d.steps)(j1:Steps w aA d.steps):
  Calls prog 212 #[.agg #[.slice a0 l.length c0],.agg #[.string d.name,.int .i64 d.cost,.slice aA d.steps.length ca]] w fun e w'=>lG l d w w' e:=by
 have j2:l.length<=maxLen:=by unfold maxLen;omega
 have hf:∀e9∈l,e9.Fits:=fun e9 j3=>(hs e9 j3).fits d2
 have f0:=e8.fits d2;go_enter func212,ntmps212
 go_wp2_with fail
 refine (gW _ a0 c0 l j2 hf (hN.kept (by repeat (first | apply K_.alloc | exact K_.refl _)))).mono ?_;rintro e w1 ⟨⟨c,rfl,hc⟩,k1⟩;have K1:K_ w w1:=K_.trans (by repeat (first | apply K_.alloc | exact K_.refl _)) k1;have z1:=k1.size;simp only[MS] at z1;have q0:=z_ (w:=w) (K_.trans ((ah _ _).alloc _) k1);have nn:=FU (w:=w.alloc (.cells #[.slice a0 l.length c0] 25)) (K_.trans (ah _ _) k1);simp only[MS] at nn;obtain⟨n0,n1,n2⟩:=nn;have f1:aD w1 (w.heap.size+2) 25 1:=aD.kept (by have:=aD.made ((w.alloc (.cells #[.slice a0 l.length c0] 25)).alloc (.cells #[.string d.name,.int .i64 d.cost,.slice aA d.steps.length ca] 88)) #[.slice none 0 0] 25;simpa using this) k1;obtain⟨⟨_,x0⟩,j4⟩:=f1.row.at (i:=0) (by omega);have⟨d3,HC⟩:=aH f1 hc;clear f1 hc k1;by_cases f2:c=0
 ·subst f2;have j5:w.heap.size<w1.heap.size:=by omega
  have f3:w.heap.size+1<w1.heap.size:=by omega
  have l7:w.heap.size+2<w1.heap.size:=by omega
  go_wp2_with fail
  refine (m_ _ d.name f0.name).mono ?_;rintro e w2 ⟨a9,rfl⟩;rcases a9.cases with⟨rfl,c1⟩|⟨rfl,c2⟩
  ·have HY:=Kz c1;clear c1 a9;go_wp2_with fail
   refine (fI _ d.cost aA ca d.steps f0.steps f0.each (j1.kept K1)).mono ?_;rintro e w3 ⟨a9,k3⟩;have q3:=(k3.cell (o:=0) j5).trans q0;have p0:=(k3.cell (o:=0) f3).trans n0;have p1:=(k3.cell (o:=1) f3).trans n1;have p2:=(k3.cell (o:=2) f3).trans n2;have d4:=Kz (d3.o.kept k3);have K3:=K1.trans k3;have z3:=k3.size;obtain⟨⟨_,y0⟩,j6⟩:=d4.o.row.at (i:=0) (by omega);clear q0 n0 n1 n2 x0 j4 d3 K1 k3;rcases a9.cases with⟨rfl,c1⟩|⟨rfl,c2⟩
   ·have HM:=Kz c1;clear c1 a9;have j7:w.heap.size<w3.heap.size:=by omega
    have f4:w.heap.size+1<w3.heap.size:=by omega
    have l8:w.heap.size+2<w3.heap.size:=by omega
    have d5:=Kz (xN HC.o);go_wp2_with fail
    refine (rM _ a0 c0 l d.name d2 hl hs (hS.kept K3)).mono ?_;rintro e a ⟨b0,C,l9,m0,rfl,m1,f5,f6,k4⟩;obtain⟨old,d6⟩:=aj (JP l d);rw[show l.filter (bV d.name.toList)=old from d6.symm] at f5 f6⊢;have m2:old.length<=l.length:=by rw[d6];exact List.length_filter_le _ _
    have⟨h1,h3,h4⟩:=dF d6 f5 f6;have K4:=K3.trans k4;have q4:=(k4.cell (o:=0) j7).trans q3;have r0:=(k4.cell (o:=0) f4).trans p0;have r1:=(k4.cell (o:=1) f4).trans p1;have r2:=(k4.cell (o:=2) f4).trans p2;have d7:=Kz (d4.o.kept k4);have z4:=k4.size;obtain⟨⟨_,v0⟩,u0⟩:=d7.o.row.at (i:=0) (by omega);clear d6 f5 f6 q3 p0 p1 p2 y0 j6 d4 K3 k4;have m3:w.heap.size<a.heap.size:=by omega
    have d8:w.heap.size+1<a.heap.size:=by omega
    have m4:w.heap.size+2<a.heap.size:=by omega
    by_cases m5:60<=old.length
    ·have j8:(60:Int)<=(old.length:Int):=by omega
     go_wp2
     have j9:=Mi a (w.heap.size+2) 0 [.slice none 0 0] (d7.o.row.there (o:=0) (m:=1) (Me _));have k0:((a.setCell ⟨w.heap.size+2,0,none⟩ (.slice none 0 0)).alloc (.cells #[.slice b0 old.length C] 25)).rangeAt (w.heap.size+2) 0 [.slice none 0 0]:=K_.range (ah _ _) (by rw[size_setCell];omega) j9;refine dL [.slice none 0 0] _ (.int .i64 3) results212 rfl k0 underlying25 rfl Tryz.lT rfl rfl (lG.none 3 rfl (.inr (.inr (.inl ⟨HC.o,HY.o,HM.o, ?_,rfl,rfl⟩))) ?_)
     ·rw[rf d5.out,show l.filter (bV d.name.toList)=old from h1.o.symm];omega
     ·exact (K4.setCell (by simp <;> omega) _).alloc _
    ·have j8:¬(60:Int)<=(old.length:Int):=by omega
     have r:Hid (∀w',K_ ((a.alloc (.cells #[.slice b0 old.length C] 25)).alloc (.cells #[.slice none 0 0] 25)) w'->(fun w'=>w'.cell? ⟨w.heap.size+1,0,none⟩=some (.string d.name)/\w'.cell? ⟨w.heap.size+1,1,none⟩=some (.int .i64 d.cost)/\w'.cell? ⟨w.heap.size+1,2,none⟩=some (.slice aA d.steps.length ca)) w'):=fun w' kk=>by
      have k5:K_ a w':=K_.trans ((ah _ _).alloc _) kk;exact⟨(k5.cell d8).trans r0,(k5.cell d8).trans r1,(k5.cell d8).trans r2⟩
     have KA:K_ w ((a.alloc (.cells #[.slice b0 old.length C] 25)).alloc (.cells #[.slice none 0 0] 25)):=(K4.alloc _).alloc _;go_upto_region 9 with fail
     go_cut [8] from 36 to 41 (fun s8 wx=>LX ((a.alloc (.cells #[.slice b0 old.length C] 25)).alloc (.cells #[.slice none 0 0] 25)) d s8 wx)
     case first=>
      go_region_held (fun w'=>w'.cell? ⟨w.heap.size+1,0,none⟩=some (.string d.name)/\w'.cell? ⟨w.heap.size+1,1,none⟩=some (.int .i64 d.cost)/\w'.cell? ⟨w.heap.size+1,2,none⟩=some (.slice aA d.steps.length ca)) (exact bf r _ (by repeat (first | (refine K_.setCell ?_ (by simp <;> omega) _) | (with_reducible exact K_.refl _) | (with_reducible assumption) | apply K_.drew | apply K_.alloc))) ((go_at_call 193;refine (zF _ d.cost aA ca d.steps d2 e8.steps e8.each (hA.kept (KA.trans (by repeat (first | (with_reducible exact K_.refl _) | (with_reducible assumption) | apply K_.drew | apply K_.alloc))))).mono ?_;rintro e w7 ⟨s,v,rfl,h5,h6⟩;have k7:K_ ((a.alloc (.cells #[.slice b0 old.length C] 25)).alloc (.cells #[.slice none 0 0] 25)) w7:=K_.trans (by repeat (first | (with_reducible exact K_.refl _) | (with_reducible assumption) | apply K_.drew | apply K_.alloc)) h6;have h7:=Kz h5;clear h5;(first | (have b8:=Bj (t:=88) (c:= #[.string ⟨#[]⟩,.int .i64 0,.slice none 0 0]) h6;simp only[MS] at b8;have c3:=Kz b8;obtain⟨⟨_,t0⟩,U⟩:=b8.row.at (i:=0) (by decide);obtain⟨⟨_,t1⟩,V⟩:=b8.row.at (i:=1) (by decide);obtain⟨⟨_,m6⟩,m7⟩:=b8.row.at (i:=2) (by decide);clear b8) | skip)))
      ·go_wp2
       go_meet
       refine⟨w7.heap.size,s,v,rfl,k7.alloc _,k7.size,by simp,by simp,by simp,by simp, ?_⟩;exact h7.o.same (u:=88) (.ax (ah _ _)) (by decide) (by decide) (by decide)
      ·go_wp2
       go_meet
       have y:=Mi w7 (a.heap.size+1+1) 0 [.string d.name,.int .i64 d.cost,.slice s d.steps.length v] (c3.o.row.there (o:=0) (m:=3) (Me _));refine⟨a.heap.size+1+1,s,v,rfl,((k7.setCell (by simp) _).setCell (by simp) _).setCell (by simp) _,by simp,by simp only[size_setCell];exact c3.o.lt,y 0 _ rfl,y 1 _ rfl,y 2 _ rfl, ?_⟩;exact h7.o.same (((c3.o.same _).trans ((c3.o.set _).same _)).trans (((c3.o.set _).set _).same _)) (by decide) (by decide) (by decide)
     case rest=>
      obtain⟨k2,s,v,rfl,a2⟩:=hcut;have c4:K_ a wc:=K_.trans ((ah _ _).alloc _) a2.kept;have zc:=a2.kept.size;have zo:=a2.ge;simp only[MS] at zc zo;have co:=z_ (w:=a) (K_.trans (ah _ _) a2.kept);have cu:=z_ (w:=a.alloc (.cells #[.slice b0 old.length C] 25)) a2.kept;simp only[MS] at cu;have cn:=(c4.cell (o:=0) d8).trans r0;have f7:=Bc (X:=a.alloc (.cells #[.slice b0 old.length C] 25)) a2.kept;simp only[MS] at f7;have b1:Hid (aD wc (a.heap.size+1) 25 1):=f7;have d9:=Kz (d7.o.kept c4);have k6:=Kz (ak h3.o c4);have k8:=Kz (h4.o.same (aC.ax (t:=88) c4) (by decide) (by decide) (by decide));have F:=Kz a2;obtain⟨a3,hT⟩:=aj (lq l d);obtain⟨W,e0⟩:=aj (oQ l d);have e1:l.filter (bV d.name.toList)=old:=h1.o.symm;have b2:Hid (a3.length=old.length+1):=by rw[hT,<-e1];exact rf d5.out
      have m8:W<=old.length:=by rw[e0,<-e1];exact FR d5.out
      have h8:Hid (a3.getD W Qz.zero=d):=by rw[hT,e0];exact Ie l d
      have k9:Hid (∀k,k<old.length->(k<W->Op.bytesLess (old.getD k Qz.zero).name.toList d.name.toList=true/\a3.getD k Qz.zero=old.getD k Qz.zero)/\(W<=k->(Op.bytesLess (old.getD k Qz.zero).name.toList d.name.toList=false/\((old.getD k Qz.zero).name.toList == d.name.toList)=false)/\a3.getD (k+1) Qz.zero=old.getD k Qz.zero)):=by
       rw[hT,e0,<-e1];exact fun k hk=>D_ d5.out k hk
      have HT:=Kz hT;clear hT e0 e1 a2 f7 h3 h4 d7 v0 u0 q4 r KA;have K5:=K4.trans c4;go_wp2
      go_loopw [9,10] (fun dn f8 wr=>∃(k e2:Nat) (I:NH) (J:Nat) (O:List NJ),k<=old.length/\f8= .int .i64 k/\((dn= .bool true/\W<k/\e2=k+1)\/(dn= .bool false/\k<=W/\e2=k))/\iM wc wr (a.heap.size+1) a3 e2 I J O) (fun _ f8 _=>old.length-(intOf f8).toNat)
      case atStart=>exact⟨0,0,none,0,[],Mg _,rfl,.inr ⟨rfl,Mg _,rfl⟩,Xj.refl _ _ _,b1.o,cu,Nc _ _ _ _,dx.nil _⟩
      case round=>
       obtain⟨k,e2,I,J,O,hk,rfl,h9,a4⟩:=hrel;have l0:=Kz (aC.sj a4.kb b1.o);have zr:=a4.kb.size;have f9:=a4.kb.same (l2:=0) (h2:=a.heap.size+1) (by omega);have e4:=a4.kb.same (l2:=a.heap.size+1+1) (h2:=wc.heap.size) (by omega);have eo:=(f9.cell (o:=0) (Mg _) (by omega:a.heap.size<a.heap.size+1) (by omega)).trans co;have en:=(f9.cell (o:=0) (Mg _) (by omega:w.heap.size+1<a.heap.size+1) (by omega)).trans cn;have g0:=(e4.cell (o:=0) zo F.o.lt F.o.lt).trans F.o.name;have g1:=(e4.cell (o:=1) zo F.o.lt F.o.lt).trans F.o.cost;have e3:=(e4.cell (o:=2) zo F.o.lt F.o.lt).trans F.o.steps;have ol:=F.o.lt;have eu:=a4.cell;obtain⟨⟨_,l1⟩,g2⟩:=a4.row.row.at (i:=0) (by omega);have D:=Kz a4;clear a4 f9 e4 l1;have g3:a.heap.size+1<wr.heap.size:=by omega
       have g4:a.heap.size<wr.heap.size:=by omega
       have m9:k2<wr.heap.size:=by omega
       have n3:w.heap.size+1<wr.heap.size:=by omega
       by_cases i0:k<old.length
       ·obtain⟨g,e5,fr,i,j,rfl,n,E,G,H,g5⟩:=dx.at k6.o k8.o i0;have g6:=l0.out g e5 _ fr (by decide) n;have n4:=aN g6;have HG:=Kz (k9.o k i0);obtain⟨x,hx⟩:=aj (old.getD k Qz.zero);rw[<-hx] at E G H g5 HG;have Y:=Kz (And.intro E (And.intro G H));have D0:Hid (wr.cell? ⟨g,k*3,none⟩=some (.string x.name)):=by show _=_;rw[Mt (g6.trans n.symm)];exact E
        have g7:=D0.out;have n5:(k:Int)<(old.length:Int):=by omega
        have g8:=Kz g5;clear hx g5 E G H g6;rcases h9 with⟨rfl,g9,hm⟩|⟨rfl,g9,h0⟩
        ·subst hm;have c5:=Kz (HG.o.2 (by omega)).2;go_wp2
         go_quiet (fail)
         obtain⟨b,L⟩:=aj (wr.drewN nq);rw[<-L];have m:iM wc b (a.heap.size+1) a3 (k+1) I J O:=by rw[L];exact D.o.drewN nq
         clear L eo en g0 g1 e3 eu g2 g7;have a5:=aC.sj m.kb b1.o;have z:=a5 g e5 _ fr (by decide) n;have a6:=m.kb.same (l2:=0) (h2:=a.heap.size+1) (by omega);have U:=(a6.cell (o:=0) (Mg _) (by omega:a.heap.size<a.heap.size+1) (by omega)).trans co;have E:b.cell? ⟨g,k*3,none⟩=some (.string x.name):=by rw[Mt (z.trans n.symm)];exact Y.out.1
         have G:b.cell? ⟨g,k*3+1,none⟩=some (.int .i64 x.cost):=by rw[Mt (z.trans n.symm)];exact Y.out.2.1
         have H:b.cell? ⟨g,k*3+2,none⟩=some (.slice i x.steps.length j):=by rw[Mt (z.trans n.symm)];exact Y.out.2.2
         have V:=m.cell;have zq:=m.kb.size;have A:=Kz m;have gl:=aN n;have g3:a.heap.size+1<b.heap.size:=by omega
         have g4:a.heap.size<b.heap.size:=by omega
         have i1:g<b.heap.size:=by omega
         have r:Hid (∀w',Below wc.heap.size b w'->(fun w'=>w'.cell? ⟨a.heap.size+1,0,none⟩=some (.slice I (k+1) J)/\w'.cell? ⟨a.heap.size,0,none⟩=some (.slice (some ⟨g,0,none⟩) old.length C)/\w'.cell? ⟨g,k*3,none⟩=some (.string x.name)/\w'.cell? ⟨g,k*3+1,none⟩=some (.int .i64 x.cost)/\w'.cell? ⟨g,k*3+2,none⟩=some (.slice i x.steps.length j)) w'):=fun w' q=>⟨(Below.cell q (p:=⟨a.heap.size+1,0,none⟩) (by simp <;> omega)).trans V,(Below.cell q (p:=⟨a.heap.size,0,none⟩) (by simp <;> omega)).trans U,(Below.cell q (p:=⟨g,k*3,none⟩) (by simp <;> omega)).trans E,(Below.cell q (p:=⟨g,k*3+1,none⟩) (by simp <;> omega)).trans G,(Below.cell q (p:=⟨g,k*3+2,none⟩) (by simp <;> omega)).trans H⟩
         clear m a5 z a6;obtain⟨P,Q,R,S,T⟩:=info_parts Tryz.mP;go_wp2
         refine Qk.region (by kernel_rfl) (fun w'=>w'.cell? ⟨a.heap.size+1,0,none⟩=some (.slice I (k+1) J)/\w'.cell? ⟨a.heap.size,0,none⟩=some (.slice (some ⟨g,0,none⟩) old.length C)/\w'.cell? ⟨g,k*3,none⟩=some (.string x.name)/\w'.cell? ⟨g,k*3+1,none⟩=some (.int .i64 x.cost)/\w'.cell? ⟨g,k*3+2,none⟩=some (.slice i x.steps.length j)) 10 ⟨V,U,E,G,H⟩ (fun h=>?_);refine au 0 h ?_;refine ae 4 h ?_;refine ae 5 h ?_;refine ae 6 h ?_;refine ai 7 (fun K f=>?_);go_simp
         have B:K_ b (b.alloc (.cells #[.string x.name,.int .i64 x.cost,.slice i x.steps.length j] 88)).drew:=(ah _ _).drew;refine af f (fun _=>r.o _ (Below.mono B (by omega))) ?_;clear f K h;refine ai 8 (fun K f=>?_);refine step_append_lies _ rfl (.tmp 69) (.tmp 75) 23 rfl wc.heap.size 88 P _ 3 48 underlying23 Q R S T rfl (by decide) (.slice I (k+1) J) (k+1) O (by simp[Act.eval]) (ak A.o.own B) ⟨b.heap.size,0,none⟩ 1 1 [.string x.name,.int .i64 x.cost,.slice i x.steps.length j] (by simp[Act.eval]) rfl (fun Z u a1=>by rw[MZ];exact X_ b #[.string x.name,.int .i64 x.cost,.slice i x.steps.length j] 88 Z u (by simpa using a1)) (mK x i j) (by omega) (by unfold maxLen;omega) (by omega) (by simp;omega) _ rfl ?_;intro i2 c6 w8 a7 M c7 i3;have N:=A.o.grown B M;have a8:aD w8 (a.heap.size+1) 25 1:=A.o.row.block (N.block _ (by omega));obtain⟨⟨_,i4⟩,i5⟩:=a8.row.at (i:=0) (by omega);have⟨c8,c9⟩:=aH a7 M;clear a7 M c7 a8;refine af f (fun _=>r.o _ N) ?_;clear f K;have h:=r.o _ N;refine ae 9 h ?_;refine ai 10 (fun K f=>?_);go_simp
         refine af f (fun b3=>Nv rfl b3) ?_;clear f K;refine aF ?_;go_wp2
         go_roundw
         case rel=>exact⟨k+1,k+1+1,_,c6,_,by omega,by go_num,.inl ⟨rfl,by omega,by omega⟩,iM.next A.o (by omega) B c9.o c8.o (by have:=b2.o;omega) c5.o g8.o⟩
         case measure=>simp[intOf];omega
        ·have hm:=h0.symm;subst hm;by_cases i6:k<W
         ·have l3:=(HG.o.1 i6).1;have c5:=Kz (HG.o.1 i6).2;go_wp2
          go_quiet (fail)
          obtain⟨b,L⟩:=aj (wr.drewN nq);rw[<-L];have m:iM wc b (a.heap.size+1) a3 (k) I J O:=by rw[L];exact D.o.drewN nq
          clear L eo en g0 g1 e3 eu g2 g7;have a5:=aC.sj m.kb b1.o;have z:=a5 g e5 _ fr (by decide) n;have a6:=m.kb.same (l2:=0) (h2:=a.heap.size+1) (by omega);have U:=(a6.cell (o:=0) (Mg _) (by omega:a.heap.size<a.heap.size+1) (by omega)).trans co;have E:b.cell? ⟨g,k*3,none⟩=some (.string x.name):=by rw[Mt (z.trans n.symm)];exact Y.out.1
          have G:b.cell? ⟨g,k*3+1,none⟩=some (.int .i64 x.cost):=by rw[Mt (z.trans n.symm)];exact Y.out.2.1
          have H:b.cell? ⟨g,k*3+2,none⟩=some (.slice i x.steps.length j):=by rw[Mt (z.trans n.symm)];exact Y.out.2.2
          have V:=m.cell;have zq:=m.kb.size;have A:=Kz m;have gl:=aN n;have g3:a.heap.size+1<b.heap.size:=by omega
          have g4:a.heap.size<b.heap.size:=by omega
          have i1:g<b.heap.size:=by omega
          have r:Hid (∀w',Below wc.heap.size b w'->(fun w'=>w'.cell? ⟨a.heap.size+1,0,none⟩=some (.slice I (k) J)/\w'.cell? ⟨a.heap.size,0,none⟩=some (.slice (some ⟨g,0,none⟩) old.length C)/\w'.cell? ⟨g,k*3,none⟩=some (.string x.name)/\w'.cell? ⟨g,k*3+1,none⟩=some (.int .i64 x.cost)/\w'.cell? ⟨g,k*3+2,none⟩=some (.slice i x.steps.length j)) w'):=fun w' q=>⟨(Below.cell q (p:=⟨a.heap.size+1,0,none⟩) (by simp <;> omega)).trans V,(Below.cell q (p:=⟨a.heap.size,0,none⟩) (by simp <;> omega)).trans U,(Below.cell q (p:=⟨g,k*3,none⟩) (by simp <;> omega)).trans E,(Below.cell q (p:=⟨g,k*3+1,none⟩) (by simp <;> omega)).trans G,(Below.cell q (p:=⟨g,k*3+2,none⟩) (by simp <;> omega)).trans H⟩
          clear m a5 z a6;obtain⟨P,Q,R,S,T⟩:=info_parts Tryz.mP;go_wp2
          refine Qk.region (by kernel_rfl) (fun w'=>w'.cell? ⟨a.heap.size+1,0,none⟩=some (.slice I (k) J)/\w'.cell? ⟨a.heap.size,0,none⟩=some (.slice (some ⟨g,0,none⟩) old.length C)/\w'.cell? ⟨g,k*3,none⟩=some (.string x.name)/\w'.cell? ⟨g,k*3+1,none⟩=some (.int .i64 x.cost)/\w'.cell? ⟨g,k*3+2,none⟩=some (.slice i x.steps.length j)) 10 ⟨V,U,E,G,H⟩ (fun h=>?_);refine au 0 h ?_;refine ae 4 h ?_;refine ae 5 h ?_;refine ae 6 h ?_;refine ai 7 (fun K f=>?_);go_simp
          have B:K_ b (b.alloc (.cells #[.string x.name,.int .i64 x.cost,.slice i x.steps.length j] 88)).drew:=(ah _ _).drew;refine af f (fun _=>r.o _ (Below.mono B (by omega))) ?_;clear f K h;refine ai 8 (fun K f=>?_);refine step_append_lies _ rfl (.tmp 69) (.tmp 75) 23 rfl wc.heap.size 88 P _ 3 48 underlying23 Q R S T rfl (by decide) (.slice I (k) J) (k) O (by simp[Act.eval]) (ak A.o.own B) ⟨b.heap.size,0,none⟩ 1 1 [.string x.name,.int .i64 x.cost,.slice i x.steps.length j] (by simp[Act.eval]) rfl (fun Z u a1=>by rw[MZ];exact X_ b #[.string x.name,.int .i64 x.cost,.slice i x.steps.length j] 88 Z u (by simpa using a1)) (mK x i j) (by omega) (by unfold maxLen;omega) (by omega) (by simp;omega) _ rfl ?_;intro i2 c6 w8 a7 M c7 i3;have N:=A.o.grown B M;have a8:aD w8 (a.heap.size+1) 25 1:=A.o.row.block (N.block _ (by omega));obtain⟨⟨_,i4⟩,i5⟩:=a8.row.at (i:=0) (by omega);have⟨c8,c9⟩:=aH a7 M;clear a7 M c7 a8;refine af f (fun _=>r.o _ N) ?_;clear f K;have h:=r.o _ N;refine ae 9 h ?_;refine ai 10 (fun K f=>?_);go_simp
          refine af f (fun b3=>Nv rfl b3) ?_;clear f K;refine aF ?_;go_wp2
          go_roundw
          case rel=>exact⟨k+1,k+1,_,c6,_,by omega,by go_num,.inr ⟨rfl,by omega,by omega⟩,iM.next A.o (by omega) B c9.o c8.o (by have:=b2.o;omega) c5.o g8.o⟩
          case measure=>simp[intOf];omega
         ·obtain⟨l3,n6⟩:=(HG.o.2 (by omega)).1;have c5:=Kz (HG.o.2 (by omega)).2;go_wp2
          go_quiet (fail)
          obtain⟨P,Q,R,S,T⟩:=info_parts Tryz.mP;go_wp2_with (at_builtin;refine wpList_append_own _ rfl (.tmp 63) (.tmp 65) 23 rfl wc.heap.size 88 P _ 3 48 underlying23 Q R S T rfl (by decide) _ k O rfl (ak D.o.own (by repeat (first | (with_reducible exact K_.refl _) | apply K_.alloc | apply K_.drewN | apply K_.drew))) ⟨wr.heap.size,0,none⟩ 1 1 [.string d.name,.int .i64 d.cost,.slice s d.steps.length v] rfl rfl (fun Z u a1=>(by rw[MZ];exact X_ wr #[.string d.name,.int .i64 d.cost,.slice s d.steps.length v] 88 Z u (by simpa using a1))) (mK d s v) (by unfold maxLen;omega) (by omega) (by simp;omega) ?_;intro v6 w6 b4 b5 _;obtain⟨b6,b7,rfl⟩:=ay b4;have b9:K_ wr ((wr.drewN nq).alloc (.cells #[.string d.name,.int .i64 d.cost,.slice s d.steps.length v] 88)):=((K_.refl _).drewN nq).alloc _;have d0:=D.o.grown b9 b5;have d1:aD w6 (a.heap.size+1) 25 1:=D.o.row.block (d0.block _ (by omega));obtain⟨⟨_,i7⟩,i8⟩:=d1.row.at (i:=0) (by omega);have e6:=Kz (iM.next D.o (by omega) b9 b5 b4 (by have:=b2.o;omega) (by have:=h8.o;rw[show k=W by omega];exact this) F.o.one);clear b4 b5 d1)
          obtain⟨b,L⟩:=aj (w6.setCell ⟨a.heap.size+1,0,none⟩ (.slice b6 (k+1) b7));rw[<-L];have m:iM wc b (a.heap.size+1) a3 (k+1) b6 b7 (O++ [.string d.name,.int .i64 d.cost,.slice s d.steps.length v]):=by rw[L];exact e6.o
          clear L eo en g0 g1 e3 eu g2 g7 i8 i7 d0 b9 e6;clear P Q R S T;have a5:=aC.sj m.kb b1.o;have z:=a5 g e5 _ fr (by decide) n;have a6:=m.kb.same (l2:=0) (h2:=a.heap.size+1) (by omega);have U:=(a6.cell (o:=0) (Mg _) (by omega:a.heap.size<a.heap.size+1) (by omega)).trans co;have E:b.cell? ⟨g,k*3,none⟩=some (.string x.name):=by rw[Mt (z.trans n.symm)];exact Y.out.1
          have G:b.cell? ⟨g,k*3+1,none⟩=some (.int .i64 x.cost):=by rw[Mt (z.trans n.symm)];exact Y.out.2.1
          have H:b.cell? ⟨g,k*3+2,none⟩=some (.slice i x.steps.length j):=by rw[Mt (z.trans n.symm)];exact Y.out.2.2
          have V:=m.cell;have zq:=m.kb.size;have A:=Kz m;have gl:=aN n;have g3:a.heap.size+1<b.heap.size:=by omega
          have g4:a.heap.size<b.heap.size:=by omega
          have i1:g<b.heap.size:=by omega
          have r:Hid (∀w',Below wc.heap.size b w'->(fun w'=>w'.cell? ⟨a.heap.size+1,0,none⟩=some (.slice b6 (k+1) b7)/\w'.cell? ⟨a.heap.size,0,none⟩=some (.slice (some ⟨g,0,none⟩) old.length C)/\w'.cell? ⟨g,k*3,none⟩=some (.string x.name)/\w'.cell? ⟨g,k*3+1,none⟩=some (.int .i64 x.cost)/\w'.cell? ⟨g,k*3+2,none⟩=some (.slice i x.steps.length j)) w'):=fun w' q=>⟨(Below.cell q (p:=⟨a.heap.size+1,0,none⟩) (by simp <;> omega)).trans V,(Below.cell q (p:=⟨a.heap.size,0,none⟩) (by simp <;> omega)).trans U,(Below.cell q (p:=⟨g,k*3,none⟩) (by simp <;> omega)).trans E,(Below.cell q (p:=⟨g,k*3+1,none⟩) (by simp <;> omega)).trans G,(Below.cell q (p:=⟨g,k*3+2,none⟩) (by simp <;> omega)).trans H⟩
          clear m a5 z a6;obtain⟨P,Q,R,S,T⟩:=info_parts Tryz.mP;go_wp2
          refine Qk.region (by kernel_rfl) (fun w'=>w'.cell? ⟨a.heap.size+1,0,none⟩=some (.slice b6 (k+1) b7)/\w'.cell? ⟨a.heap.size,0,none⟩=some (.slice (some ⟨g,0,none⟩) old.length C)/\w'.cell? ⟨g,k*3,none⟩=some (.string x.name)/\w'.cell? ⟨g,k*3+1,none⟩=some (.int .i64 x.cost)/\w'.cell? ⟨g,k*3+2,none⟩=some (.slice i x.steps.length j)) 10 ⟨V,U,E,G,H⟩ (fun h=>?_);refine au 0 h ?_;refine ae 4 h ?_;refine ae 5 h ?_;refine ae 6 h ?_;refine ai 7 (fun K f=>?_);go_simp
          have B:K_ b (b.alloc (.cells #[.string x.name,.int .i64 x.cost,.slice i x.steps.length j] 88)).drew:=(ah _ _).drew;refine af f (fun _=>r.o _ (Below.mono B (by omega))) ?_;clear f K h;refine ai 8 (fun K f=>?_);refine step_append_lies _ rfl (.tmp 69) (.tmp 75) 23 rfl wc.heap.size 88 P _ 3 48 underlying23 Q R S T rfl (by decide) (.slice b6 (k+1) b7) (k+1) (O++ [.string d.name,.int .i64 d.cost,.slice s d.steps.length v]) (by simp[Act.eval]) (ak A.o.own B) ⟨b.heap.size,0,none⟩ 1 1 [.string x.name,.int .i64 x.cost,.slice i x.steps.length j] (by simp[Act.eval]) rfl (fun Z u a1=>by rw[MZ];exact X_ b #[.string x.name,.int .i64 x.cost,.slice i x.steps.length j] 88 Z u (by simpa using a1)) (mK x i j) (by omega) (by unfold maxLen;omega) (by omega) (by simp;omega) _ rfl ?_;intro i2 c6 w8 a7 M c7 i3;have N:=A.o.grown B M;have a8:aD w8 (a.heap.size+1) 25 1:=A.o.row.block (N.block _ (by omega));obtain⟨⟨_,i4⟩,i5⟩:=a8.row.at (i:=0) (by omega);have⟨c8,c9⟩:=aH a7 M;clear a7 M c7 a8;refine af f (fun _=>r.o _ N) ?_;clear f K;have h:=r.o _ N;refine ae 9 h ?_;refine ai 10 (fun K f=>?_);go_simp
          refine af f (fun b3=>Nv rfl b3) ?_;clear f K;refine aF ?_;go_wp2
          go_roundw
          case rel=>exact⟨k+1,k+1+1,_,c6,_,by omega,by go_num,.inl ⟨rfl,by omega,by omega⟩,iM.next A.o (by omega) B c9.o c8.o (by have:=b2.o;omega) c5.o g8.o⟩
          case measure=>simp[intOf];omega
       ·have l4:k=old.length:=by omega
        subst l4;rcases h9 with⟨rfl,g9,hm⟩|⟨rfl,g9,h0⟩
        ·subst hm;obtain⟨y,e7⟩:=D.o.fin b1.o d9.o (by omega) K5 (by omega) (by omega) b2.o HT.o HC.o HY.o HM.o (by omega);have i9:=d9.o.block (D.o.kb.block _ (by omega) (by omega));obtain⟨⟨_,t0⟩,t1⟩:=i9.row.at (i:=0) (by omega);have⟨l5,l6⟩:=aH y e7;clear i9 y e7;go_wp2
         exact dL [.slice I (old.length+1) J] _ (.int .i64 0) results212 rfl l5.o underlying25 rfl Tryz.lT rfl rfl l6.o
        ·have hm:=h0.symm;subst hm;obtain⟨P,Q,R,S,T⟩:=info_parts Tryz.mP;have n7:w.heap.size+2<wr.heap.size:=by omega
         go_wp2_with (at_builtin;refine wpList_append_own _ rfl (.tmp 81) (.tmp 83) 23 rfl wc.heap.size 88 P _ 3 48 underlying23 Q R S T rfl (by decide) _ old.length O rfl (ak D.o.own (by repeat (first | (with_reducible exact K_.refl _) | apply K_.alloc | apply K_.drewN | apply K_.drew))) ⟨wr.heap.size,0,none⟩ 1 1 [.string d.name,.int .i64 d.cost,.slice s d.steps.length v] rfl rfl (fun Z u a1=>(by rw[MZ];exact X_ wr #[.string d.name,.int .i64 d.cost,.slice s d.steps.length v] 88 Z u (by simpa using a1))) (mK d s v) (by unfold maxLen;omega) (by omega) (by simp;omega) ?_;intro v6 w6 b4 b5 _;obtain⟨b6,b7,rfl⟩:=ay b4;have b9:K_ wr (wr.alloc (.cells #[.string d.name,.int .i64 d.cost,.slice s d.steps.length v] 88)):=ah _ _;have d0:=D.o.grown b9 b5;have d1:aD w6 (a.heap.size+1) 25 1:=D.o.row.block (d0.block _ (by omega));obtain⟨⟨_,i7⟩,i8⟩:=d1.row.at (i:=0) (by omega);have j0:aD w6 (w.heap.size+2) 25 1:=(d9.o.block (D.o.kb.block _ (by omega) (by omega))).block (d0.block _ (by omega));obtain⟨⟨_,n8⟩,n9⟩:=j0.row.at (i:=0) (by omega);have e6:=Kz (iM.next D.o (by omega) b9 b5 b4 (by have:=b2.o;omega) (by have:=h8.o;rw[show old.length=W by omega];exact this) F.o.one);clear b4 b5 d1 j0)
         obtain⟨y,e7⟩:=e6.o.fin b1.o d9.o (by omega) K5 (by omega) (by omega) b2.o HT.o HC.o HY.o HM.o (by omega);exact dL [.slice b6 (old.length+1) b7] _ (.int .i64 0) results212 rfl y underlying25 rfl Tryz.lT rfl rfl e7
   ·have HM:=Kz c2;clear c2 a9;go_wp2
    have y:=Mi w3 (w.heap.size+2) 0 [.slice none 0 0] (d4.o.row.there (o:=0) (m:=1) (Me _));refine dL [.slice none 0 0] _ (.int .i64 2) results212 rfl y underlying25 rfl Tryz.lT rfl rfl (lG.none 2 rfl (.inr (.inl ⟨HC.o,.inr HM.o,rfl,rfl⟩)) ?_)
    repeat (first | (refine K_.setCell ?_ (by simp <;> omega) _) | exact K3)
  ·have HY:=Kz c2;clear c2 a9;go_wp2
   have y:=Mi w2 (w.heap.size+2) 0 [.slice none 0 0] (d3.o.row.there (o:=0) (m:=1) (Me _));refine dL [.slice none 0 0] _ (.int .i64 2) results212 rfl y underlying25 rfl Tryz.lT rfl rfl (lG.none 2 rfl (.inr (.inl ⟨HC.o,.inl HY.o,rfl,rfl⟩)) ?_)
   repeat (first | (refine K_.setCell ?_ (by simp <;> omega) _) | exact K1)
 ·have o0:(c == 0)=false:=by simpa using f2
  go_wp2
  have y:=Mi w1 (w.heap.size+2) 0 [.slice none 0 0] (d3.o.row.there (o:=0) (m:=1) (Me _));refine dL [.slice none 0 0] _ (.int .i64 1) results212 rfl y underlying25 rfl Tryz.lT rfl rfl (lG.none 1 rfl (.inl ⟨fun b3=>f2 (HC.o.unique b3),rfl,rfl⟩) ?_)
  repeat (first | (refine K_.setCell ?_ (by simp <;> omega) _) | exact K1)
theorem bL.at(h:bL w (.slice a n cap) l)(f:k<l.length):
  ∃B oB b c,a=some ⟨B,oB,none⟩/\B<w.heap.size/\w.rangeAt B (oB+k*3) ((l.getD k Qz.zero).cells b c)/\j_ w b (l.getD k Qz.zero).steps/\Steps w b (l.getD k Qz.zero).steps:=by
 obtain⟨r,s,e,t,v,g⟩:=h;simp only[MW] at e;obtain⟨rfl,rfl,rfl⟩:=e;obtain⟨i,o,x,y,u,j,m,p,d⟩:=g k f;obtain⟨b,c,rfl,_,q⟩:=d.EB;exact⟨i,o,b,c,j,aN m,p,q,d.steps⟩
def ze(mN:Nat)(w w':NI)(e:Ending):Prop:=
 ∃(v:NJ) (r:List Qz),e= .returned (.agg #[v])/\r.length<=60/\(∀d∈r,d.TinyN mN)/\bL w' v r/\K_ w w'/\lm w.heap.size v r
def JN(mN:Nat)(wr:NI)(s5 s6:NJ)(wx:NI):Prop:=
 ∃(xb:Nat) (v:NJ) (c:Int) (r:List Qz),s5= .c xb/\s6= .a c/\K_ wr wx/\xb<wx.heap.size/\wx.cell? ⟨xb,0,none⟩=some v/\bL wx v r/\r.length<=60/\(∀d∈r,d.TinyN mN)/\lm wr.heap.size v r
theorem Bd.tiny{r:List Qz}{c:Int}(h:Bd l d c r)(e:∀d∈l,d.TinyN mN)(f:d.TinyN mN):∀x∈r,x.TinyN mN:=λx a=>by
 rcases h.mem a with rfl|a
 .exact f
 .exact e x a
theorem uD(w:NI)(c:NH)(b:Nat)(l:List Qz)(c3:mN<=1000)(hl:l.length<=1000)(hs:∀d∈l,d.TinyN mN)(hG:bL w (.slice c l.length b) l):
  Calls prog 189 #[.agg #[.slice c l.length b]] w λe w'=>ze mN w w' e:=by
 go_enter func189,ntmps189
 go_wp2
 have Y:K_ w (((w.alloc (.cells #[.slice c l.length b] 25)).alloc (.cells #[M0] 25)).alloc (.cells #[M0] 25)):=((ah _ _).alloc _).alloc _;go_loopw [4] (λH wr=>∃(k:Nat) (A:NJ) (r:List Qz),k<=l.length/\H= .a k/\K_ w wr/\wr.cell? ⟨w.heap.size,0,none⟩=some (.slice c l.length b)/\aD wr (w.heap.size+1) 25 1/\aD wr (w.heap.size+2) 25 1/\
   wr.cell? ⟨w.heap.size+2,0,none⟩=some A/\bL wr A r/\r.length<=60/\(∀d∈r,d.TinyN mN)/\lm w.heap.size A r) (λH _=>l.length-(intOf H).toNat)
 case atStart=>
  have Z:=X_ ((w.alloc (.cells #[.slice c l.length b] 25)).alloc (.cells #[M0] 25)) #[M0] 25;simp only[MS] at Z;refine⟨0,M0,[],Mg _,rfl,Y, ?_, ?_, ?_,Z 0 _ rfl,bL.nil _,E9,(λd hd=>by simp at hd),(λh0=>by simp at h0)⟩
  .rw[K_.cell (w:=w.alloc (.cells #[.slice c l.length b] 25)) ((ah _ _).alloc _) E9];exact X_ w _ _ 0 _ rfl
  .exact aD.kept (by have:=aD.made (w.alloc (.cells #[.slice c l.length b] 25)) #[M0] 25;simpa using this) (ah _ _)
  .have:=aD.made ((w.alloc (.cells #[.slice c l.length b] 25)).alloc (.cells #[M0] 25)) #[M0] 25;simpa using this
 case round=>
  clear Y;obtain⟨k,A,r,hk,rfl,f,I,a0,J,K,a1,a2,a3,a4⟩:=hrel;obtain⟨h,rfl⟩:=aj wr;have M:=J.lt;have⟨n,a5,j,v⟩:=mM a0 J a1 a3;clear a0 J a1 a3;by_cases a6:k<l.length
  .have c4:(k:Int)<(l.length:Int):=E5;obtain⟨B,i,N,O,c5,a7,a8,P,Q⟩:=hG.at a6;subst c5;obtain⟨p,q,rfl,d8,d9⟩:=j.o.slice;have x:=f.range a7 a8;have R:B<h.heap.size:=Mf a7 f.size;have C:=hs (l.getD k Qz.zero) (by simp[List.getD,a6]);obtain⟨d,a9⟩:=aj (l.getD k Qz.zero);rw[<-a9] at x P Q C;have S:=x 0 _ rfl;have c1:=x 1 _ rfl;have c2:=x 2 _ rfl;rw[M_] at S;have c6:=Kz (P.kept f);have c8:=Kz (Q.kept f);clear x a9 a8 P Q;have b0:Hid (∀w',K_ h w'->(λw'=>w'.cell? ⟨w.heap.size+2,0,none⟩=some (.slice p r.length q)/\w'.cell? ⟨w.heap.size,0,none⟩=some (.slice (some ⟨B,i,none⟩) l.length b)/\w'.cell? ⟨B,i+k*3,none⟩=some (.string d.name)/\w'.cell? ⟨B,i+k*3+1,none⟩=some (.a d.cost)/\w'.cell? ⟨B,i+k*3+2,none⟩=some (.slice N d.steps.length O)) w'):=λw' y=>⟨(y.cell M).trans K,(y.cell E5).trans I,(y.cell R).trans S,(y.cell R).trans c1,(y.cell R).trans c2⟩
   go_upto_region 5 with fail
   go_cut [5,6] from 15 to 24 (λs5 s6 wx=>JN mN h s5 s6 wx)
   case first=>
    go_region_held (λw'=>w'.cell? ⟨w.heap.size+2,0,none⟩=some (.slice p r.length q)/\w'.cell? ⟨w.heap.size,0,none⟩=some (.slice (some ⟨B,i,none⟩) l.length b)/\w'.cell? ⟨B,i+k*3,none⟩=some (.string d.name)/\w'.cell? ⟨B,i+k*3+1,none⟩=some (.a d.cost)/\w'.cell? ⟨B,i+k*3+2,none⟩=some (.slice N d.steps.length O)) (exact bf b0 _ (by repeat (first | (refine K_.setCell ?_ F7 _) | (with_reducible exact K_.refl _) | (with_reducible assumption) | apply K_.drew | apply K_.alloc))) ((go_at_call 212;refine (IX _ p q r d N O c3 E5 v.o C (j.o.Jw.kept H7) (j.o.nodes.kept H7) (c6.o.kept H7) (c8.o.kept H7)).mono ?_;rintro e T ⟨c9,d0,s,D,e1,d1,rfl,b1,b2,U,b3,b4⟩;have a:K_ h T:=K_.trans H7 b4;have b5:=Kz (bL.gK U b3);have b6:h.heap.size<=d1:=Mh (K_.size H7) b2;have b7:=Kz ((lm.gK (L:=D) U).mono b6);have E:=Kz b1;clear b1 U b3 b2 b6;(first | (have F:=Bj (t:=25) (c:= #[M0]) b4;(try simp only[MS] at F);have V:=Kz F;obtain⟨⟨_,t0⟩,f0⟩:=F.row.at (i:=0) E8;clear F) | skip)))
    .go_wp2
     go_meet
     exact⟨_,_,s,D,rfl,rfl,a.alloc _,E9,E9,b5.o.kept (ah _ _),E.o.len,E.o.tiny v.o C,b7.o⟩
    .go_wp2
     go_meet
     have W:=Mi T h.heap.size 0 [.slice c9 D.length d0] (V.o.row.there (o:=0) (m:=1) (Me _));exact⟨_,_,s,D,rfl,rfl,a.setCell E9 _,by rw[size_setCell];exact V.o.lt,W 0 _ rfl,b5.o.same (V.o.same (o:=0) _) E8 E8 E8 E8,E.o.len,E.o.tiny v.o C,b7.o⟩
   case rest=>
    obtain⟨xb,v7,s,r7,rfl,rfl,a,zx,x0,X,d2,b8,d3⟩:=hcut;obtain⟨T,rfl⟩:=aj wc;have z7:=Mf M a.size;have o7:=(a.cell (o:=0) M).trans K;have p7:=(a.cell (o:=0) (E5:w.heap.size<h.heap.size)).trans I;obtain⟨e2,c7,rfl,_,_⟩:=X.slice;have⟨d4,d5⟩:=aH X b8;have b9:=Kz (n.o.kept a);have z:=Kz (a5.o.kept a);have d6:=Kz (j.o.kept a);have c0:=f.trans a;have d7:=f.size;obtain⟨⟨_,u0⟩,g0⟩:=z.o.row.at (i:=0) E5;clear X b8 b0 S c1 c2 K I n a5 j a f;by_cases G:s=0
    .have e0:(s == 0)=true:=by simp[G]
     clear G;go_wp2
     go_roundw
     case rel=>
      refine⟨k+1,_,r7,E5,F3,c0.setCell F7 _, ?_,b9.o.block (Below.heap_setCell _ _ _ _ E9),z.o.set _,aW z.o.row E5 _,d4.o.same (z.o.same (o:=0) _) E8 E8 E8 E8,d2,d5.o,d3.mono d7⟩;rw[ME _ _ _ _ E9];exact p7
     case measure=>simp[intOf];omega
    .have e0:(s == 0)=false:=by simpa using G
     clear G;go_wp2
     go_roundw
     case rel=>exact⟨k+1,_,r,E5,F3,c0,p7,b9.o,z.o,o7,d6.o,a2,v.o,a4⟩
     case measure=>simp[intOf];omega
  .have c4:¬(k:Int)<(l.length:Int):=E5;obtain⟨⟨_,x0⟩,g0⟩:=n.o.row.at (i:=0) E5;have z1:=n.o.lt;obtain⟨p,q,rfl,_,_⟩:=j.o.slice;go_wp2
   have W:=Mi h (w.heap.size+1) 0 [.slice p r.length q] (n.o.row.there (o:=0) (m:=1) (Me _));exact Zx [.slice p r.length q] _ results189 rfl W underlying25 rfl Tryz.lT rfl ⟨_,r,rfl,a2,v.o,j.o.same (n.o.same (o:=0) _) E8 E8 E8 E8,f.setCell E9 _,a4⟩
theorem fT.sorted{M:Nat}{f:NI}{t:Nat}(h:fT M A0 f rb wb a cap bs p' v L xs)(x:ze M f w6 e){b:Nat}(y:aD f b 25 1)(z:w.heap.size<=b)(k0:K_ w A0){A:Nat}(B:Rd w rb a cap bs A)
 (C:p<=p') (h2:p'<=p+t):∃c vn d,e= .returned (.agg #[.slice c vn d])/\aD w6 b 25 1/\iU M 60 w (w6.setCell ⟨b,0,none⟩ (.slice c vn d)) rb a cap bs p t e:=by
 obtain⟨I,r,k,D,E,l,j,F⟩:=x;obtain⟨c,d,rfl,_,_⟩:=l.slice;have m:=y.kept j;have G:=m.same (o:=0) (.slice c r.length d);have n:Below w.heap.size w6 (w6.setCell ⟨b,0,none⟩ (.slice c r.length d)):=(Below.refl _ _).setCell (p:=⟨b,0,none⟩) z _;have q:Xj rb (rb+1) w w6:=Xj.fQ ⟨h.kb.os.trans k0.os,h.kb.tape.trans k0.tape,h.kb.output.trans k0.output,Mh k0.size h.kb.size,λi s H=>(h.kb.block i (Mf s k0.size) H).trans (k0.block i s)⟩ j;exact⟨c,r.length,d,k,m,_,r,p',k,C,h2,D,E,l.same G E8 E8 E8 E8,(h.rd.kept j).below B n q.size,q.below n,F.mono (Mh k0.size h.kb.size)⟩
def bS(g:NG):Xq:=⟨[],0,[],0,0,true,false,g⟩
theorem iN{g:NG}(a:g.size<=300):(bS g).TinyN m:=⟨Mg _,(λx b=>by simp[bS] at b),L6,Mg _,(λe c=>by simp[bS] at c),by show (-9223372036854775808:Int)<=0/\(0:Int)<=9223372036854775807;decide,L6,a⟩
theorem sM(w:NI)(g:NG):lw w 9 231 ((bS g).cells none 0 none 0) (bS g):=⟨none,0,none,0,rfl,.inl rfl,.inl rfl,Me _⟩
theorem oH(g:NG):ky ((bS g).cells none 0 none 0):=jU (λ_=>⟨rfl,rfl⟩) (λ_=>⟨rfl,rfl⟩)
theorem ER(w:NI)(c:Array NJ):∀j u,c.toList[j]? =some u->(w.alloc (.cells c 176)).cell? ((⟨w.heap.size,0,none⟩:Addr).add j)=some u:=λj u a=>by
 rw[MZ];exact X_ w c 176 j u a
theorem jE.g{c:Nat}{cost:Int}{L:List Xq}(h:jE mN w wr rb c a cap bs p cost v L xs):dw wr v L:=(StW.gK h.own h.pack h.nV).g
def JW(M N:Nat)(A0 wx:NI)(rb wb res:Nat)(a:NH)(cap:Nat)(bs:List UInt8)(p t:Nat):Prop:=
 ∃(va:NH) (vc:Nat) (L:List Qz) (p':Nat),p<=p'/\p'<=p+t/\L.length<=N/\aD wx res 25 1/\jb M A0 wx rb wb a cap bs p' (.slice va L.length vc) L
theorem FB{P:Program}(w:NI)(t u v:TypeId)(c:P.underlying t=some (.slice u))(d:P.underlying u=some (.int .u8))(e:P.underlying v=some .string)(x y:Int):
  (convert t v (.b w.heap.size 2 2)).run P (w.alloc (.cells #[.int .u8 x,.int .u8 y] u))= .ok (.string (strOfNums [x,y])) (w.alloc (.cells #[.int .u8 x,.int .u8 y] u)):=
 run_convert_bytes_arg (P:=P) _ t u c d w.heap.size 0 2 2 [x,y] rfl (λi a=>by
  match i,a with
  | 0,_=>rw[World.cell?_alloc_mark];rfl
  | 1,_=>rw[World.cell?_alloc_mark];rfl
  | i+2,a=>exact Nv a E5) v e
theorem zQ(w:NI):dw (w.alloc (.cells #[M0,.a 0,M0,.a 0,.a 0,.bool true,.bool false,.string ⟨#[]⟩] 176)) (.b w.heap.size 1 1) [bS ⟨#[]⟩]:=by
 have a:=X_ w #[M0,.a 0,M0,.a 0,.a 0,.bool true,.bool false,.string ⟨#[]⟩] 176;refine⟨_,1,rfl,Me _,λi c=>?_⟩;obtain rfl:i=0:=by simpa using c
 exact⟨w.heap.size,0,_,_,(bS ⟨#[]⟩).cells none 0 none 0,rfl,heap_alloc_new w _,a,(sM _ _).g,oH _⟩
theorem JR(x:Int)(a:NH)(n c:Nat):(#[.a x,.slice a n c]:Array NJ).all (·.oneCell')=true:=J5
theorem EG(s:NG)(x:Int)(a:NH)(n c:Nat):(#[.string s,.a x,.slice a n c]:Array NJ).all (·.oneCell')=true:=J5
theorem DD(mN:Nat)(k7:mN<=900)(w:NI)(D:Nat)(a:NH)(H:Nat)(E:List UInt8)(p:Nat)(a0:NH)(a6:Nat)(l:List Qz)(hR:Rd w D a H E p)(hp:p<=700000)(a7:E.length<=2000)(hl:l.length<=200)(h4:∀d∈l,d.TinyN mN)(hG:bL w (.slice a0 l.length a6) l):
  Calls prog 110 #[.pointer (some ⟨D,0,none⟩),.agg #[.slice a0 l.length a6]] w fun e w'=>iU (mN+10) (l.length+62) w w' D a H E p 20 e:=by
 obtain⟨V,b5⟩:=aj ((w.alloc (.cells #[.slice a0 l.length a6] 25)).alloc (.cells #[.slice none 0 0] 25));have k0:K_ w V:=by rw[b5];exact (ah _ _).alloc _
 have h5:V.heap.size=w.heap.size+2:=by rw[b5];simp
 have h6:Hid (aD V (w.heap.size+1) 25 1):=by
  rw[b5];have:=aD.made (w.alloc (.cells #[.slice a0 l.length a6] 25)) #[.slice none 0 0] 25;rw[MS] at this;exact this
 have p6:=hR.row.lt;have h7:=Kz hR;have h8:=Kz (hR.kept k0);have k8:=Kz (hG.kept k0);clear hR hG;go_enter func110,ntmps110
 go_upto_region 1 with fail
 rw[<-b5];have k9:=Kz h5;have l0:V.cell? ⟨w.heap.size,0,none⟩=some (.slice a0 l.length a6):=by
  rw[b5,K_.cell (w:=w.alloc (.cells #[.slice a0 l.length a6] 25)) (ah _ _) (by simp)];exact X_ w _ _ 0 _ rfl
 have bz:w.heap.size<V.heap.size:=by omega
 clear b5 h5;go_wp2_with fail
 refine (rM _ a0 a6 l ⟨#[]⟩ (mN:=mN) (by omega) (by omega) h4 k8.o.Jw).mono ?_;rintro e A ⟨av,q,xs,base,rfl,h9,hO,hP,k1⟩;obtain⟨L,hL⟩:=aj (l.filter (bV (⟨#[]⟩:NG).toList));rw[<-hL] at hO hP⊢;have p7:L.length<=200:=by rw[hL];exact Mh (List.length_filter_le _ _) hl
 have p8:L.length<=l.length:=by rw[hL];exact List.length_filter_le _ _
 have i0:∀d∈L,d.TinyN mN:=fun d r=>h4 d (by rw[hL] at r;exact (List.mem_filter.1 r).1)
 have kw:K_ A (A.alloc (.cells #[.slice av L.length q] 25)):=ah _ _;have a3:Hid (fT mN V (A.alloc (.cells #[.slice av L.length q] 25)) D A.heap.size a H E p (.slice av L.length q) L xs):=
  ⟨(h8.o.kept k1).kept kw,⟨p,h8.o⟩,k1.size,.ax (k1.trans kw),aD.made A _ _,X_ A _ _ 0 _ rfl,dM (ak hO kw) h9,hP.same (u:=25) (.ax kw) (by decide) (by decide) (by decide),i0⟩
 have a8:=Kz ((h6.o.kept k1).kept kw);have i1:w.heap.size+1≠A.heap.size:=by have:=(h6.o.kept k1).lt;omega
 clear hL hO hP i0 k1 kw l0 bz h9;go_upto_region 2 with fail
 obtain⟨w2,i2⟩:=aj (A.alloc (.cells #[.slice av L.length q] 25));rw[<-i2] at a3 a8⊢;clear i2;have y0:=a3.o.c0;have zb:=a3.o.row.lt;by_cases d0:L.length=0
 ·have i3:((L.length:Int) == 0)=true:=by simp[d0]
  clear d0;obtain⟨⟨_,x0⟩,l1⟩:=a8.o.row.at (i:=0) (by omega);have xz:=a8.o.lt;go_wp2
  have hR:=Mi w2 (w.heap.size+1) 0 [.slice av L.length q] (a8.o.row.there (o:=0) (m:=1) (Me _));exact Zx [.slice av L.length q] _ results110 rfl hR underlying25 rfl Tryz.gV rfl ((a3.o.fin.mono (n:=mN+10) (by omega)).ends a8.o (by omega) k0 h7.o rfl (Me _) (by omega) (by omega))
 have i3:((L.length:Int) == 0)=false:=by simpa using d0
 have a9:0<L.length:=by omega
 obtain⟨g,gc,N,c3,I,p9⟩:=a3.o.tZ a9;simp only[MW,true_and] at N;obtain⟨rfl,rfl⟩:=N;clear d0 I;go_wp2_with fail
 refine (og _ D a H E p L.length a3.o.rd (by omega) (by omega) a7).mono ?_;rintro e q0 ⟨k,rfl,hk,i4,e7⟩;have e8:=Kz (a3.o.drawn i4 e7);have i5:=Kz (a8.o.but e7 (by omega));have W:k<L.length:=by omega
 clear i4 e7 a3 a8 y0 zb i3;go_wp2_with fail
 refine (aM _ D a H E (p+1) _ 5 rfl e8.o.rd (by omega) (by omega) a7).mono ?_;rintro e i ⟨s,rfl,q2,i6,f1⟩;have j:=Kz (e8.o.drawn i6 f1);have a1:=Kz (i5.o.but f1 (by omega));clear i6 f1 e8 i5;have b0:Hid (aD i g 88 (q*3)):=by
  obtain⟨g',c',N,_,I,_⟩:=j.o.tZ a9;simp only[MW,true_and,MV,ND,and_true] at N;obtain⟨rfl,rfl⟩:=N;exact I
 go_upto_block 0 with fail
 go_cut [7,8,9] from 24 to 115 (fun _ _ _ wx=>JW (mN+10) (l.length+62) V wx D A.heap.size (w.heap.size+1) a H E p 20)
 case rest=>
  obtain⟨va,vc,F,p',h1,h2,h3,b1,hF⟩:=hcut;obtain⟨wE,rfl⟩:=aj wc;have⟨HF,c4⟩:=aH hF b1;have q3:=hF.c0;have oz:=hF.row.lt;obtain⟨⟨_,x0⟩,l1⟩:=b1.row.at (i:=0) (by omega);have xz:=b1.lt;clear hF b1 j a1 b0;go_wp2
  have hR:=Mi wE (w.heap.size+1) 0 [.slice va F.length vc] (c4.o.row.there (o:=0) (m:=1) (Me _));exact Zx [.slice va F.length vc] _ results110 rfl hR underlying25 rfl Tryz.gV rfl (HF.o.ends c4.o (by omega) k0 h7.o rfl h1 h2 h3)
 case first=>
  have y4:=j.o.c0;have d1:=j.o.row.lt;have f2:=b0.o.lt;have b6:k*3+3<=q*3:=by omega
  have q4:w.heap.size+1≠g:=by have:=k9.o;omega
  have q5:(k:Int)<(L.length:Int):=by omega
  by_cases X:s=0
  ·have d2:((s:Int) == 0)=true:=by simp[X]
   clear X;go_upto_region 10 with fail
   have t:=Kz (j.o.kept (aV i));have a4:=Kz (a1.o.kept (aV i));refine Qk.region (by kernel_rfl) (fun (v:NI)=>v.cell? ⟨A.heap.size,0,none⟩=some (.slice (some ⟨g,0,none⟩) L.length q)) 14 t.o.c0 (fun h=>?_);generalize l2:i.drew=wd at h t a4⊢;clear l2 y4 d1 f2 j a1 b0;refine au 0 h ?_;refine ae 8 h ?_;refine aG 4 (fun K b=>?_);go_simp
   go_at_call 19
   refine (aM _ D a H E (p+2) _ 2 rfl t.o.rd (by omega) (by omega) a7).mono ?_;rintro e B ⟨b2,rfl,hq,O,x⟩;have Y:=Kz (t.o.drawn O x);have b7:=Kz (a4.o.but x (by omega));dsimp only;refine b.out _ _ (fun _=>Y.o.c0) ?_;clear b K h O x t a4;have h:=Y.o.c0;try simp only[upP]
   have ew:IntKind.i64.wrap (20+ (b2:Int))=20+ (b2:Int):=by simp[IntKind.wrap,IntKind.bits,IntKind.signed];omega
   refine bY 5 (.int .i64 (20+ (b2:Int))) h ?_ ?_
   ·intro u hu;try dsimp only at hu
    go_simp
    try with_reducible rfl
   try simp only[upP]
   refine aG 6 (fun K b=>?_);go_simp
   go_at_call 163
   refine (uW _ ⟨#[110]⟩ _ (20+b2) (by push_cast;rfl) (by omega) (by decide)).mono ?_;rintro e w6 ⟨⟨Q,rfl,hx⟩,l3⟩;have l4:Q.size<=300:=by have e1:(⟨#[110]⟩:NG).size=1:=rfl;rw[e1] at hx;omega
   subst l3;dsimp only;refine af b (fun _=>Y.o.c0) ?_;clear b K;have i7:∀c∈([⟨#[]⟩,⟨#[45]⟩,⟨#[97,44,98]⟩,⟨#[97]⟩,Q]:List NG),c.size<=300:=by
    intro c hc;simp only[Na,Nb,or_false] at hc;rcases hc with rfl | rfl | rfl | rfl | rfl <;> first | exact l4 | decide
   clear ew;refine ik 7 9 (fun K b=>?_) (fun K b=>?_)
   ·rw[Nt (by rfl)];go_simp
    have K3:K_ w6 (w6.alloc (.cells #[.string ⟨#[]⟩,.string ⟨#[45]⟩,.string ⟨#[97,44,98]⟩,.string ⟨#[97]⟩,.string Q] 9)):=ah _ _;have b8:=Kz (Y.o.kept K3);have b9:=Kz (b7.o.kept K3);refine af b (fun _=>b8.o.c0) ?_;clear b K;clear h K3;refine aG 9 (fun K b=>?_);go_simp
    go_at_call 19
    refine (aM _ D a H E (p+3) _ 5 rfl b8.o.rd (by omega) (by omega) a7).mono ?_;rintro e wE ⟨y,rfl,f3,O,x⟩;have C:=Kz (b8.o.drawn O x);have d3:=Kz (b9.o.but x (by omega));obtain⟨c,hc,f4⟩:=zV [⟨#[]⟩,⟨#[45]⟩,⟨#[97,44,98]⟩,⟨#[97]⟩,Q] x Y.o.rd.row.lt y (by show y<5;omega) i7;have lz:w6.heap.size<wE.heap.size:=Nat.lt_of_lt_of_le (by simp) x.size;clear O x;dsimp only;refine af b (fun _=>C.o.c0) ?_;clear b K;have l5:(y:Int)<5:=by omega
    refine ai 10 (fun K b=>?_);go_simp
    refine af b (fun _=>C.o.c0) ?_;clear b K;refine ai 11 (fun K b=>?_);go_simp
    refine af b (fun _=>C.o.c0) ?_;clear b K;have h:=C.o.c0;refine ae 12 h ?_;refine ae 13 h ?_;have f:aD wE g 88 (q*3):=by
     obtain⟨g',c',N,_,I,_⟩:=C.o.tZ a9;simp only[MW,true_and,MV,ND,and_true] at N;obtain⟨rfl,rfl⟩:=N;exact I
    have zg:=f.lt;obtain⟨⟨_,u0⟩,f0⟩:=f.row.at (i:=k*3) (by omega);have HF:=Kz ((C.o.fin.mono (n:=mN+10) (by omega)).Fj c3 W f b6 f4);have b3:=Kz (d3.o.ja (f.same (o:=k*3) (.string c)) (by decide)).1;clear f;refine ai 14 (fun K b=>?_);go_simp
    refine af b (fun a2=>Nv rfl a2) ?_;clear b K;refine aF ?_;go_wp2
    go_meet
    exact⟨some ⟨g,0,none⟩,q,L.set k ⟨c,(L.getD k Qz.zero).cost,(L.getD k Qz.zero).steps⟩,p+4,by omega,by omega,by rw[Np];omega,b3.o,by rw[Np];exact HF.o⟩
   ·rw[Nt (by rfl)];go_simp
    go_at_call 19
    refine (aM _ D a H E (p+3) _ 5 rfl Y.o.rd (by omega) (by omega) a7).mono ?_;rintro e R ⟨y,rfl,f3,O,x⟩;have b8:=Kz (Y.o.drawn O x);have b9:=Kz (b7.o.but x (by omega));clear O x;dsimp only;refine af b (fun _=>b8.o.c0) ?_;clear b K h;refine aG 7 (fun K b=>?_);go_simp
    have K3:K_ R (R.alloc (.cells #[.string ⟨#[]⟩,.string ⟨#[45]⟩,.string ⟨#[97,44,98]⟩,.string ⟨#[97]⟩,.string Q] 9)):=ah _ _;have C:=Kz (b8.o.kept K3);have d3:=Kz (b9.o.kept K3);obtain⟨c,hc,f4⟩:=BF R 9 [⟨#[]⟩,⟨#[45]⟩,⟨#[97,44,98]⟩,⟨#[97]⟩,Q] y (by show y<5;omega) i7;have lz:R.heap.size<(R.alloc (.cells #[.string ⟨#[]⟩,.string ⟨#[45]⟩,.string ⟨#[97,44,98]⟩,.string ⟨#[97]⟩,.string Q] 9)).heap.size:=by simp
    have l6:(R.alloc (.cells #[.string ⟨#[]⟩,.string ⟨#[45]⟩,.string ⟨#[97,44,98]⟩,.string ⟨#[97]⟩,.string Q] 9)).cell? ⟨R.heap.size,y,none⟩=some (.string c):=hc;refine b.out _ _ (fun _=>C.o.c0) ?_;clear b K hc K3;generalize l7:R.alloc (.cells #[.string ⟨#[]⟩,.string ⟨#[45]⟩,.string ⟨#[97,44,98]⟩,.string ⟨#[97]⟩,.string Q] 9)=wE at C d3 lz l6⊢;clear l7;try simp only[upP]
    have l5:(y:Int)<5:=by omega
    refine ai 10 (fun K b=>?_);go_simp
    refine af b (fun _=>C.o.c0) ?_;clear b K;refine ai 11 (fun K b=>?_);go_simp
    refine af b (fun _=>C.o.c0) ?_;clear b K;have h:=C.o.c0;refine ae 12 h ?_;refine ae 13 h ?_;have f:aD wE g 88 (q*3):=by
     obtain⟨g',c',N,_,I,_⟩:=C.o.tZ a9;simp only[MW,true_and,MV,ND,and_true] at N;obtain⟨rfl,rfl⟩:=N;exact I
    have zg:=f.lt;obtain⟨⟨_,u0⟩,f0⟩:=f.row.at (i:=k*3) (by omega);have HF:=Kz ((C.o.fin.mono (n:=mN+10) (by omega)).Fj c3 W f b6 f4);have b3:=Kz (d3.o.ja (f.same (o:=k*3) (.string c)) (by decide)).1;clear f;refine ai 14 (fun K b=>?_);go_simp
    refine af b (fun a2=>Nv rfl a2) ?_;clear b K;refine aF ?_;go_wp2
    go_meet
    exact⟨some ⟨g,0,none⟩,q,L.set k ⟨c,(L.getD k Qz.zero).cost,(L.getD k Qz.zero).steps⟩,p+4,by omega,by omega,by rw[Np];omega,b3.o,by rw[Np];exact HF.o⟩
  by_cases h1:s=1
  ·have d2:((s:Int) == 0)=false:=by simpa using X
   have e1:((s:Int) == 1)=true:=by simp[h1]
   clear X h1;obtain⟨J,S,f,z⟩:=j.o.web.cells W;obtain⟨d,r⟩:=aj (L.getD k Qz.zero);have T:=j.o.tiny d (by rw[r];simp[List.getD,W]);rw[<-r] at f z;have G:=f 1 _ rfl;have n2:=f 2 _ rfl;have c5:=Kz z;have l8:Hid (j_ i J d.steps):=by
    obtain⟨q6,l9,e9,_,hS⟩:=z.EB;simp only[MW,true_and] at e9;obtain⟨rfl,rfl⟩:=e9;exact hS
   have⟨HD,b4⟩:=aH r T;clear f z r T;go_upto_region 12 with fail
   refine Qk.region (by kernel_rfl) (fun (v:NI)=>v.cell? ⟨A.heap.size,0,none⟩=some (.slice (some ⟨g,0,none⟩) L.length q)/\v.cell? ⟨g,k*3+1,none⟩=some (.int .i64 d.cost)/\v.cell? ⟨g,k*3+2,none⟩=some (.slice J d.steps.length S)) 13 ⟨y4,G,n2⟩ (fun h=>?_);refine au 0 h ?_;refine au 4 h ?_;refine ae 8 h ?_;refine ae 9 h ?_;refine aG 10 (fun K b=>?_);go_simp
   go_at_call 164
   refine (Fw mN k7 _ D a H E (p+2) d.cost J S d.steps ((j.o.kept (aV i)).rd) (by omega) a7 b4.o.steps b4.o.cost b4.o.each (l8.o.kept (aV i))).mono ?_;rintro e w6 ⟨cost,u,LS,m0,rfl,q7,q8,m1,m2,m3,i8,i9,d4⟩;have Y:=Kz ((j.o.kept (aV i)).drawn i9 d4);have b7:=Kz ((a1.o.kept (aV i)).but d4 (by omega));have j0:=Kz i8.g;obtain⟨ua,uc,rfl⟩:=j0.o.slice;have c6:=d4.sameKind (j.o.kept (aV i)).rd;have f:=b0.o.kept (aV i);have d5:=f.ja c6 (by decide);have j1:(fun (v:NI)=>v.cell? ⟨A.heap.size,0,none⟩=some (.slice (some ⟨g,0,none⟩) L.length q)/\v.cell? ⟨g,k*3+1,none⟩=some (.int .i64 d.cost)/\v.cell? ⟨g,k*3+2,none⟩=some (.slice J d.steps.length S)) w6:=⟨Y.o.c0,(d5.2 _).trans G,(d5.2 _).trans n2⟩;have f5:=Kz d5.1;dsimp only;refine b.out _ _ (fun _=>j1) ?_;clear b K h i8 i9 d4 c6 f d5;have h:=j1;try simp only[upP]
   refine ae 11 h ?_;refine ae 12 h ?_;have HF:=Kz ((Y.o.fin.mono (n:=mN+10) (by omega)).GQ c3 W f5.o b6 j0.o m2 m1 m3);have b3:=Kz (b7.o.ja (f5.o.setCells [.int .i64 cost,.slice ua LS.length uc] (k*3+1)).2 (by decide)).1;refine aG 13 (fun K b=>?_);refine wp_store_mid 73 _ _ rfl g (k*3+1) #[.int .i64 cost,.slice ua LS.length uc] (by rfl) (by rfl) (f5.o.row.there (by simp;omega)) (by kernel_rfl) (JR ..) ?_;refine af b (fun a2=>Nv rfl a2) ?_;clear b K;refine aF ?_;go_wp2
   go_meet
   exact⟨some ⟨g,0,none⟩,q,L.set k ⟨(L.getD k Qz.zero).name,cost,LS⟩,m0,by omega,by omega,by rw[Np];omega,b3.o,by rw[Np];exact HF.o⟩
  by_cases h2:s=2
  ·have d2:((s:Int) == 0)=false:=by simpa using X
   have e1:((s:Int) == 1)=false:=by rw[beq_eq_false_iff_ne];omega
   have e2:((s:Int) == 2)=true:=by simp[h2]
   clear X h1 h2;go_wp2_with fail
   refine (aM _ D a H E (p+2) _ 2 rfl j.o.rd (by omega) (by omega) a7).mono ?_;rintro e B ⟨b2,rfl,hq,O,x⟩;have t:=Kz (j.o.drawn O x);have a4:=Kz (a1.o.but x (by omega));clear O x j a1 b0 y4 d1 f2;obtain⟨G,q9⟩:∃G:Nat,G=60+b2:=⟨_,rfl⟩;go_wp2
   go_loopg [8] (G-L.length) (fun gq Q wr=>∃(a5:Nat) (v:NJ) (F:List Qz) (ys:List NJ),Q= .int .i64 (a5:Int)/\a5+gq<=61/\G<=F.length+gq/\(gq=0\/F.length+gq=G)/\F.length<=l.length+61/\aD wr (w.heap.size+1) 25 1/\fT mN V wr D A.heap.size a H E (p+3) v F ys)
   case atStart=>exact⟨0,_,L,xs,rfl,by omega,by omega,by omega,by omega,a4.o,t.o⟩
   case round=>
    clear t a4;obtain⟨a5,v,F,ys,rfl,hi,hn,m4,m5,b1,hS⟩:=hrel;obtain⟨wO,rfl⟩:=aj wr;have⟨HO,c4⟩:=aH hS b1;obtain⟨va,vc,rfl⟩:=ay hS.own;have y0:=hS.c0;have zb:=hS.row.lt;clear hS b1;by_cases m6:(F.length:Int)<60+ (b2:Int)
    ·have r0:0<gk:=by omega
     obtain⟨d6,f7⟩:=aj (F.length);have r1:d6<=61:=by omega
     have HN:=Kz f7;rw[<-f7] at y0 m6 hn m4 m5;obtain⟨q1,m7⟩:=aj (a5 / 26);obtain⟨y,f3⟩:=aj (a5 % 26);have et:(a5:Int).tdiv 26= (q1:Int):=by rw[Int.tdiv_eq_ediv_of_nonneg (by omega)];omega
     have er:(a5:Int).tmod 26= (y:Int):=by rw[Int.tmod_eq_emod_of_nonneg (by omega)];omega
     have r2:q1<=2:=by omega
     have r3:y<=25:=by omega
     clear m7 f3 f7;have m8:=Kz (FB (P:=prog) wO 22 5 9 underlying22 underlying5 underlying9 (97+ (q1:Int)) (97+ (y:Int)));obtain⟨bz,f8⟩:=aj (strOfNums [97+ (q1:Int),97+ (y:Int)]);have m9:bz.size=2:=by rw[f8];rfl
     obtain⟨U,j2⟩:∃U:NG,(⟨#[122,122]⟩:NG)++bz=U:=⟨_,rfl⟩;have j3:U.size<=300:=by rw[<-j2,ByteArray.size_append,m9];decide
     have b6:=m8.o;rw[<-f8] at b6;have f6:¬9223372036854775807<2+bz.size:=by omega
     have r4:¬9223372036854775807<4:=by omega
     obtain⟨M,c7⟩:=aj (wO.alloc (.cells #[.int .u8 (97+ (q1:Int)),.int .u8 (97+ (y:Int))] 5));have j4:K_ wO M:=by rw[c7];exact ah _ _
     have f9:Hid (dw (M.alloc (.cells #[.slice none 0 0,.int .i64 0,.slice none 0 0,.int .i64 0,.int .i64 0,.bool true,.bool false,.string ⟨#[]⟩] 176)) (.slice (some ⟨M.heap.size,0,none⟩) 1 1) [bS ⟨#[]⟩]):=zQ M;have g0:K_ M (M.alloc (.cells #[.slice none 0 0,.int .i64 0,.slice none 0 0,.int .i64 0,.int .i64 0,.bool true,.bool false,.string ⟨#[]⟩] 176)):=ah _ _;obtain⟨W2,d7⟩:=aj (M.alloc (.cells #[.slice none 0 0,.int .i64 0,.slice none 0 0,.int .i64 0,.int .i64 0,.bool true,.bool false,.string ⟨#[]⟩] 176));rw[<-d7] at f9 g0;have d8:K_ W2 (W2.alloc (.cells #[.string U,.int .i64 1,.slice (some ⟨M.heap.size,0,none⟩) 1 1] 88)):=ah _ _;obtain⟨W3,g1⟩:=aj (W2.alloc (.cells #[.string U,.int .i64 1,.slice (some ⟨M.heap.size,0,none⟩) 1 1] 88));have g2:=nC W2 U 1 (.slice (some ⟨M.heap.size,0,none⟩) 1 1);rw[<-g1] at d8 g2;have d9:=Kz ((j4.trans g0).trans d8);have j5:=Kz (HO.o.kept d9.o);have g3:=j5.o.own;rw[<-HN.o] at g3;have⟨j6,n1,n3⟩:=dF g3 j5.o.kb.size g2;have n4:=Kz (f9.o.same (u:=25) (.ax d8) (by decide) (by decide) (by decide));have HD:Hid (Qz.TinyN mN ⟨U,1,[bS ⟨#[]⟩]⟩):=⟨j3,⟨by show (-1000:Int)<=1;decide,by show (1:Int)<=1000;decide⟩,by show 1<=21;omega,fun r5 hy=>by simp only[Mm] at hy;subst hy;exact iN (show (0:Nat)<=300 by omega)⟩;obtain⟨g4,g5,g6,g7,g8⟩:=aP Tryz.mO;have HE:Hid (((wO.alloc (.cells #[.int .u8 (97+ (q1:Int)),.int .u8 (97+ (y:Int))] 5)).alloc (.cells #[.slice none 0 0,.int .i64 0,.slice none 0 0,.int .i64 0,.int .i64 0,.bool true,.bool false,.string ⟨#[]⟩] 176)).alloc (.cells #[.string ((⟨#[122,122]⟩:NG)++strOfNums [97+ (q1:Int),97+ (y:Int)]),.int .i64 1,.slice (some ⟨wO.heap.size+1,0,none⟩) 1 1] 88)=W3):=by
      show _=_;rw[g1,d7,c7,<-j2,f8];simp only[MS]
     have j7:wO.heap.size+1=M.heap.size:=by rw[c7];simp
     have j8:wO.heap.size+1+1=W2.heap.size:=by rw[d7,c7];simp
     have⟨r6,n5⟩:=aH j7 j8;clear c7 d7 g1 j4 g0 d8 g2 g3 j7 j8 j3 f9;go_wp2_with (at_builtin;rw[HE.o];refine wpList_append_lies _ rfl (.tmp 85) (.tmp 101) 23 rfl V.heap.size 88 g4 _ 3 48 underlying23 g5 g6 g7 g8 rfl (by decide) (.slice va d6 vc) d6 ys rfl j6.o ⟨W2.heap.size,0,none⟩ 1 1 [.string U,.int .i64 1,.slice (some ⟨M.heap.size,0,none⟩) 1 1] (by rw[<-n5.o];rfl) rfl n3.o (nL _ _ _ _ _) (by omega) (by unfold maxLen;omega) (by omega) n1.o _ rfl ?_;intro g9 l9 w9 j9 I _ _;have Z:=HO.o.fK d9.o (by rw[<-HN.o];exact I);have r7:=Z.1;have z9:=Z.2.lt;have n6:=(Z.2.row.at (i:=0) (by omega)).2;have n7:=Kz (HO.o.push (d:=⟨U,1,[bS ⟨#[]⟩]⟩) d9.o n4.o HD.o (by rw[<-HN.o];exact j9) (by rw[<-HN.o];exact I));have n8:Hid (aD w9 (w.heap.size+1) 25 1):=((c4.o.kept d9.o).ja (aC.aI j6.o I) (by decide)).1;clear Z j9 I)
     go_roundg (gk-1)
     case rel=>
      have hP:=n7.o;have k2:(F++ [⟨U,1,[bS ⟨#[]⟩]⟩]:List Qz).length=d6+1:=by rw[MU,HN.o];rfl
      exact⟨a5+1,_,F++ [⟨U,1,[bS ⟨#[]⟩]⟩],_,by go_num,by omega,by omega,by omega,by omega,n8.o.block (Below.heap_setCell _ _ _ _ (by simpa using i1)),hP⟩
     case measure=>omega
    ·go_wp2
     go_meet
     exact⟨va,vc,F,p+3,by omega,by omega,by omega,c4.o,HO.o.fin.mono (by omega)⟩
  by_cases h3:s=3
  ·have d2:((s:Int) == 0)=false:=by simpa using X
   have e1:((s:Int) == 1)=false:=by rw[beq_eq_false_iff_ne];omega
   have e2:((s:Int) == 2)=false:=by rw[beq_eq_false_iff_ne];omega
   have n9:((s:Int) == 3)=true:=by simp[h3]
   clear X h1 h2 h3;obtain⟨J,S,f,z⟩:=j.o.web.cells W;obtain⟨d,r⟩:=aj (L.getD k Qz.zero);have T:=j.o.tiny d (by rw[r];simp[List.getD,W]);rw[<-r] at f z;have n0:=f 0 _ rfl;have G:=f 1 _ rfl;have n2:=f 2 _ rfl;rw[M_] at n0;have⟨c5,b4⟩:=aH z T;clear f z r T;obtain⟨g4,g5,g6,g7,g8⟩:=aP Tryz.mO;go_upto_region 20 with fail
   refine Qk.region (by kernel_rfl) (fun (v:NI)=>v.cell? ⟨A.heap.size,0,none⟩=some (.slice (some ⟨g,0,none⟩) L.length q)) 10 y4 (fun h=>?_);refine au 0 h ?_;refine ae 4 h ?_;refine ae 5 h ?_;refine ai 6 (fun K b=>?_);go_simp
   refine af b (fun _=>y4) ?_;clear b K;refine ai 7 (fun K b=>?_);go_simp
   have KW:K_ i (i.drew.alloc (.cells #[.string d.name,.int .i64 d.cost,.slice J d.steps.length S] 88)):=(aV i).alloc _;refine af b (fun _=>(KW.cell d1).trans y4) ?_;clear b K h;refine ai 8 (fun K b=>?_);have t:=Kz (j.o.kept KW);refine step_append_lies _ rfl (.tmp 107) (.tmp 113) 23 rfl V.heap.size 88 g4 _ 3 48 underlying23 g5 g6 g7 g8 rfl (by decide) (.slice (some ⟨g,0,none⟩) L.length q) L.length xs (by simp[Act.eval]) t.o.own ⟨i.heap.size,0,none⟩ 1 1 [.string d.name,.int .i64 d.cost,.slice J d.steps.length S] (by simp[Act.eval]) rfl (nC _ _ _ _) (nL _ _ _ _ _) (by omega) (by unfold maxLen;omega) (by omega) t.o.kb.size _ rfl ?_;intro o0 o1 w6 k3 e0 o2 r8;have Z:=j.o.fK KW e0;have y6:=Z.1;have r9:=Z.2.lt;have n6:=(Z.2.row.at (i:=0) (by omega)).2;obtain⟨vo,s0⟩:=(Z.2.row.at (i:=0) (by omega)).1;have o3:=Kz (j.o.push (d:=d) KW (c5.o.same (u:=25) (.ax KW) (by decide) (by decide) (by decide)) b4.o k3 e0);have c6:=aC.aI t.o.own e0;have b7:Hid (aD w6 (w.heap.size+1) 25 1):=((a1.o.kept KW).ja c6 (by decide)).1;clear Z k3 e0 o2 c6 KW;refine af b (fun _=>y6) ?_;clear b K;have h:=y6;refine ae 9 h ?_;refine ai 10 (fun K b=>?_);go_simp
   refine af b (fun a2=>Nv rfl a2) ?_;clear b K;refine aF ?_;go_wp2
   go_meet
   have hF:=o3.o.fin.mono (n:=mN+10) (by omega);have k2:(L++ [d]).length=L.length+1:=by simp
   exact⟨some ⟨o0,0,none⟩,o1,L++ [d],p+2,by omega,by omega,by omega,b7.o.block (Below.heap_setCell _ _ _ _ (by simpa using i1)),by rw[k2];exact hF⟩
  have d2:((s:Int) == 0)=false:=by simpa using X
  have e1:((s:Int) == 1)=false:=by rw[beq_eq_false_iff_ne];omega
  have e2:((s:Int) == 2)=false:=by rw[beq_eq_false_iff_ne];omega
  have n9:((s:Int) == 3)=false:=by rw[beq_eq_false_iff_ne];omega
  clear X h1 h2 h3;obtain⟨J,S,f,z⟩:=j.o.web.cells a9;obtain⟨d,r⟩:=aj (L.getD 0 Qz.zero);have T:=j.o.tiny d (by rw[r];simp[List.getD,a9]);rw[<-r,Nat.zero_mul] at f;rw[<-r] at z;have n0:=f 0 _ rfl;have G:=f 1 _ rfl;have n2:=f 2 _ rfl;simp only[MM] at n0 G n2;have⟨c5,b4⟩:=aH z T;have s1:(0:Int)<(L.length:Int):=by omega
  clear f z r T;go_upto_region 7 with fail
  obtain⟨B,c8⟩:=aj (i.alloc (.cells #[.string d.name,.int .i64 d.cost,.slice J d.steps.length S] 88));have K5:K_ i B:=by rw[c8];exact ah _ _
  have hx:=X_ i #[.string d.name,.int .i64 d.cost,.slice J d.steps.length S] 88;rw[<-c8] at hx;have x0:=hx 0 _ rfl;have x1:=hx 1 _ rfl;have x2:=hx 2 _ rfl;simp only[MM] at x0 x1 x2;have xz:i.heap.size<B.heap.size:=by rw[c8];simp
  rw[<-c8];have t:=Kz (j.o.kept K5);have a4:=Kz (a1.o.kept K5);have e3:=Kz (b0.o.kept K5);have o4:=Kz (c5.o.same (u:=25) (.ax K5) (by decide) (by decide) (by decide));have o5:g≠i.heap.size:=by omega
  clear c8 K5 hx y4 d1 f2 j a1 b0 c5 n0 G n2;have y5:=t.o.c0;have s2:=t.o.row.lt;have s3:=e3.o.lt;obtain⟨c1,c2,f,z⟩:=t.o.web.cells W;obtain⟨n,r⟩:=aj (L.getD k Qz.zero);have T:=t.o.tiny n (by rw[r];simp[List.getD,W]);rw[<-r] at f z;have n0:=f 0 _ rfl;have G:=f 1 _ rfl;have n2:=f 2 _ rfl;rw[M_] at n0;have⟨o6,o7⟩:=aH z T;clear f z r T;have KD:K_ B B.drew:=aV B;have e4:=Kz (((t.o.kept KD).fin.mono (n:=mN+10) (by omega)).setNode (k:=0) (d:=n) c3 a9 (e3.o.kept KD) (by omega) (o6.o.same (u:=25) (.ax KD) (by decide) (by decide) (by decide)) (o7.o.mono (by omega)));have e5:=(e3.o.kept KD).setCells [.string n.name,.int .i64 n.cost,.slice c1 n.steps.length c2] (0*3);have c9:=Kz e5.1;have b9:=Kz ((a4.o.kept KD).ja e5.2 (by decide)).1;have k4:=Kz ((o4.o.same (u:=25) (.ax KD) (by decide) (by decide) (by decide)).same e5.2 (by decide) (by decide) (by decide));have e6:∀o v,B.cell? ⟨i.heap.size,o,none⟩=some v->(B.drew.setCells g (0*3) [.string n.name,.int .i64 n.cost,.slice c1 n.steps.length c2]).cell? ⟨i.heap.size,o,none⟩=some v:=fun o v hv=>(Mx (zh (w:=B.drew) (q:=o) hv) _ _ _ (.inl (fun e=>o5 (by simpa using e.symm)))) 0 _ rfl
  have o8:=e6 _ _ x0;have o9:=e6 _ _ x1;have p0:=e6 _ _ x2;have p1:i.heap.size<(B.drew.setCells g (0*3) [.string n.name,.int .i64 n.cost,.slice c1 n.steps.length c2]).heap.size:=by rw[size_setCells];exact xz
  clear e5 e6 KD;refine Qk.region (by kernel_rfl) (fun (v:NI)=>v.cell? ⟨A.heap.size,0,none⟩=some (.slice (some ⟨g,0,none⟩) L.length q)) 8 y5 (fun h=>?_);refine au 0 h ?_;refine ae 4 h ?_;refine ae 5 h ?_;refine ai 6 (fun K b=>?_);go_simp
  refine af b (fun _=>y5) ?_;clear b K;refine ae 7 h ?_;refine aG 8 (fun K b=>?_);refine wp_store_mid 88 _ _ rfl g (0*3) #[.string n.name,.int .i64 n.cost,.slice c1 n.steps.length c2] (by rfl) (by rfl) ((e3.o.kept (aV B)).row.there (by simp;omega)) (by kernel_rfl) (EG ..) ?_;refine af b (fun a2=>Nv rfl a2) ?_;clear b K;refine aF ?_;obtain⟨R,h0⟩:=aj (B.drew.setCells g (0*3) [.string n.name,.int .i64 n.cost,.slice c1 n.steps.length c2]);rw[<-h0] at e4 c9 b9 k4 o8 o9 p0 p1;have k5:B.drew.setCells g (0*3) (#[.string n.name,.int .i64 n.cost,.slice c1 n.steps.length c2]:Array NJ).toList=R:=h0.symm;rw[k5];clear k5;clear h0;have s4:=e4.o.c0;have s5:=e4.o.row.lt;have s6:=c9.o.lt;have p2:k<(L.set 0 n).length:=by rw[Np];exact W
  have p3:=Kz (e4.o.setNode (k:=k) (d:=d) c3 p2 c9.o b6 k4.o (b4.o.mono (by omega)));have b3:=Kz (b9.o.ja (c9.o.setCells [.string d.name,.int .i64 d.cost,.slice J d.steps.length S] (k*3)).2 (by decide)).1;have p4:Hid (R.there g (k*3) 3):=c9.o.row.there (by omega);have k6:(prog.info? 88).map (·.size)=some 3:=by kernel_rfl
  have p5:=Kz k6;clear k6;go_wp2_with (refine wpList_store_mid rfl 88 _ _ rfl g (k*3) #[.string d.name,.int .i64 d.cost,.slice J d.steps.length S] rfl rfl p4.o p5.o (EG ..) ?_)
  go_meet
  exact⟨some ⟨g,0,none⟩,q,(L.set 0 n).set k d,p+2,by omega,by omega,by rw[Np,Np];omega,b3.o,by rw[Np,Np];exact p3.o⟩
structure jD (wO wr:NI) (rb sb:Nat) (a:NH) (cap:Nat) (bs:List UInt8) (p:Nat) (aa:NH) (ca:Nat) (s:Xq):Prop where
 rd:Rd wr rb a cap bs p
 kb:Xj rb (rb+1) wO wr
 sbl:wO.heap.size<=sb
 box:dz wr sb (.slice aa s.asks.length ca) M0 s
 asks:nO wr aa s.asks
 room:s.asks.length<=ca
 nil:aa=none->s.asks.length=0/\ca=0
 cases:s.cases=[]
 tiny:s.TinyN 20
variable {sb : Nat} {aa : NH} {s : Xq} {wO : NI}
theorem jD.kept(h:jD wO wr rb sb a cap bs p aa ca s)(k:K_ wr w'):jD wO w' rb sb a cap bs p aa ca s:=
 ⟨h.rd.kept k,h.kb.fQ k,h.sbl,h.box.kept k,h.asks.same (u:=25) (.ax k) E8,h.room,h.nil,h.cases,h.tiny⟩
theorem jD.drawn(h:jD wO wr rb sb a cap bs p aa ca s)(d:rb<wO.heap.size)(c:Rd w' rb a cap bs p')(k:Xj rb (rb+1) wr w'):jD wO w' rb sb a cap bs p' aa ca s:=by
 have e:=h.sbl;exact⟨c,h.kb.trans k,h.sbl,h.box.block (k.block sb h.box.row.lt E5),h.asks.same (k.sameKind h.rd) E8,h.room,h.nil,h.cases,h.tiny⟩
theorem jD.steps(h:jD wO wr rb sb a cap bs p aa ca s):
  dw (wr.alloc (.cells #[.slice aa s.asks.length ca,.a s.on,M0,.a s.els,.a s.fall,.bool s.fin,.bool s.bad,.string s.give,M0,.a 0,M0,.a 0,.a 0,.bool true,.bool false,.string ⟨#[114]⟩] 176)) (.b wr.heap.size 2 2) [s,bS ⟨#[114]⟩]:=by
 have k:K_ wr (wr.alloc (.cells #[.slice aa s.asks.length ca,.a s.on,M0,.a s.els,.a s.fall,.bool s.fin,.bool s.bad,.string s.give,M0,.a 0,M0,.a 0,.a 0,.bool true,.bool false,.string ⟨#[114]⟩] 176)):=ah _ _;have d:=X_ wr #[.slice aa s.asks.length ca,.a s.on,M0,.a s.els,.a s.fall,.bool s.fin,.bool s.bad,.string s.give,M0,.a 0,M0,.a 0,.a 0,.bool true,.bool false,.string ⟨#[114]⟩] 176;have e:s.cases.length=0:=by rw[h.cases];rfl
 refine⟨_,2,rfl,Me _,λi f=>?_⟩
 match i,f with
 | 0,_=>
  refine⟨wr.heap.size,0,_,_,s.cells aa ca none 0,rfl,heap_alloc_new wr _,λj u b=>?_,⟨aa,ca,none,0,rfl,h.asks.same (u:=25) (.ax k) E8,.inl h.cases,h.room⟩,jU h.nil (λ_=>⟨e,rfl⟩)⟩;have c:j<8:=by have:=(Mk.1 b).1;simpa[Xq.cells] using this
  refine d j u ?_;rw[<-b];unfold Xq.cells;rw[e]
  match j,c with
  | 0,_ | 1,_ | 2,_ | 3,_ | 4,_ | 5,_ | 6,_ | 7,_=>rfl
 | 1,_=>
  refine⟨wr.heap.size,0,_,_,(bS ⟨#[114]⟩).cells none 0 none 0,rfl,heap_alloc_new wr _,λj u b=>?_,(sM _ _).g,oH _⟩;have c:j<8:=by have:=(Mk.1 b).1;simpa[Xq.cells] using this
  have:=d (8+j) u;rw[<-Nat.add_assoc] at this;refine this ?_;rw[<-b]
  match j,c with
  | 0,_ | 1,_ | 2,_ | 3,_ | 4,_ | 5,_ | 6,_ | 7,_=>rfl
theorem zS{α:Type}{p:α->Prop}{x y z:α}(h:x∈[y,z])(c:p y)(d:p z):p x:=by
 simp only[Na,Nb,or_false] at h;rcases h with rfl|rfl
 .exact c
 .exact d
theorem dz.ring(w:NI)(b:NJ)(l:List NG):dz (w.alloc (.cells #[b,.a 0,M0,.a 1,.a (-1),.bool false,.bool false,.string ⟨#[]⟩] 176)) w.heap.size b M0 ⟨l,0,[],1, -1,false,false,⟨#[]⟩⟩:=by
 have e:=X_ w #[b,.a 0,M0,.a 1,.a (-1),.bool false,.bool false,.string ⟨#[]⟩] 176;have a:∀j v,(#[b,.a 0,M0,.a 1,.a (-1),.bool false,.bool false,.string ⟨#[]⟩]:Array NJ).toList[j]? =some v->(w.alloc (.cells #[b,.a 0,M0,.a 1,.a (-1),.bool false,.bool false,.string ⟨#[]⟩] 176)).cell? ⟨w.heap.size,j,none⟩=some v:=λj v f=>by
  have:=e j v f;rw[MM] at this;exact this
 exact⟨aD.made w _ _,a 0 _ rfl,a 1 _ rfl,a 2 _ rfl,a 3 _ rfl,a 4 _ rfl,a 5 _ rfl,a 6 _ rfl,a 7 _ rfl⟩
theorem Gj{w2:NI}(b:Rd wO rb a cap bs p)(k:K_ wO w2){x:NG}(h:x.size<=300):
  SSt wO ((w2.alloc (.cells #[.string x] 9)).alloc (.cells #[.b w2.heap.size 1 1,.a 0,M0,.a 1,.a (-1),.bool false,.bool false,.string ⟨#[]⟩] 176)) rb (w2.heap.size+1) a cap bs p (.b w2.heap.size 1 1) M0 ⟨[x],0,[],1, -1,false,false,⟨#[]⟩⟩:=by
 have i:K_ w2 (w2.alloc (.cells #[.string x] 9)):=ah _ _;have c:K_ (w2.alloc (.cells #[.string x] 9)) ((w2.alloc (.cells #[.string x] 9)).alloc (.cells #[.b w2.heap.size 1 1,.a 0,M0,.a 1,.a (-1),.bool false,.bool false,.string ⟨#[]⟩] 176)):=ah _ _;have K:=(k.trans i).trans c;have m:=k.size;have e:=dz.ring (w2.alloc (.cells #[.string x] 9)) (.b w2.heap.size 1 1) [x];rw[MS] at e;have j:(w2.alloc (.cells #[.string x] 9)).ownsRow wO.heap.size 9 1 (.b w2.heap.size 1 1) 1 [.string x]:=⟨rfl,.inr ⟨w2.heap.size,1,_,rfl,k.size,heap_alloc_new w2 _,Me _,F5,rfl,rfl⟩⟩;exact⟨b.kept K,⟨p,b⟩,E5,.ax K,e,ak j c,Nc _ _ _ _,⟨by show 1<=20;omega,(λy f=>by simp at f;subst f;exact h),L6,Mg _,(λq l=>by simp at l),by show (-9223372036854775808:Int)<=1/\(1:Int)<=9223372036854775807;decide,by show (-1000:Int)<= -1/\(-1:Int)<=1000;decide,by show (0:Nat)<=300;omega⟩⟩
theorem gy.ring(h:SSt wO wr rb sb a cap bs p (.slice aa n ca) M0 s)(c:s.cases=[]):n=s.asks.length/\jD wO wr rb sb a cap bs p aa ca s:=by
 obtain⟨i,j,b,d,e⟩:=dh h.asks;simp only[MW] at b;obtain⟨rfl,rfl,rfl⟩:=b;exact⟨rfl,h.rd,h.kb,h.sbl,h.box,e.g,d,λf=>by subst f;exact iL h.asks,c,h.tiny⟩
theorem gy.tail{g:Nat}(h:SSt wO wr rb sb a cap bs p (.b g s.asks.length c) M0 s)(r:s.cases=[])(f:1<=s.asks.length)(i:aa=some ⟨g,0,none⟩/\c=1\/aa=some ⟨g,1,none⟩)(E:m+1=s.asks.length):
  jD wO (wr.setCell ⟨sb,0,none⟩ (.slice aa m (c-1))) rb sb a cap bs p aa (c-1) {s with asks:=s.asks.drop 1}:=by
 obtain⟨F,G,j,H,d⟩:=dh h.asks;simp only[MW,true_and] at j;obtain⟨rfl,rfl⟩:=j;have k:Below wO.heap.size wr (wr.setCell ⟨sb,0,none⟩ (.slice aa m (c-1))):=(Below.refl _ _).setCell h.sbl _;obtain⟨I,t⟩:=h.rd0;have l:(s.asks.drop 1).length=m:=J9;have v:=h.box.asks (.slice aa m (c-1)) (s.asks.drop 1);rcases d with d|⟨b,J,K,n,w,x⟩
 .rw[d] at f;simp at f
 simp only[MV,ND,and_true] at n;subst n;have y:nO wr aa (s.asks.drop 1):=nO.tail (b:=g) (o:=0) w (λz A=>by rw[MM];exact x z A) (λB=>by
  rcases i with⟨_,e⟩|e
  .exact Nv (Nz (by rw[l];omega)) B
  .rw[MM];exact e)
 refine⟨h.rd.below t k h.kb.size,h.kb.below k,h.sbl,by show dz _ sb (.slice aa (s.asks.drop 1).length (c-1)) _ _;rw[l];exact v,y.same (h.box.row.same _) E8,by show (s.asks.drop 1).length<=c-1;omega,λe=>?_,r,⟨by show (s.asks.drop 1).length<=20;have:=h.tiny.asks;omega,λC D=>h.tiny.eO C (List.mem_of_mem_drop D),h.tiny.on,h.tiny.cases,h.tiny.dB,h.tiny.els,h.tiny.fall,h.tiny.give⟩⟩;rcases i with⟨q,_⟩ | q <;> (rw[q] at e;cases e)
theorem Im :pM 159 400 20 60 700000:=by
 intro w p a r x b0 hR hp a9;have k0:K_ w (w.alloc (.cells #[.slice none 0 0] 25)):=ah _ _;have g0:Hid (Rd (w.alloc (.cells #[.slice none 0 0] 25)) p a r x b0):=hR.kept k0;have l8:=hR.row.lt;have b1:Hid (aD ((w.alloc (.cells #[.slice none 0 0] 25)).alloc (.cells #[.slice none 0 0] 25)) w.heap.size 25 1):=(aD.made w _ _).kept (ah _ _);have e2:=fT.made (mN:=20) g0.o g0.o (Xj.refl _ _ _);rw[MS] at e2;have⟨e4,i7⟩:=aH e2 hR;clear hR e2;go_enter func159,ntmps159
 go_wp2_with fail
 refine (aM _ p a r x b0 _ 9 rfl e4.o.rd (by omega) (by omega) a9).mono ?_;rintro J w1 ⟨v1,rfl,l9,g3,e5⟩;have g4:=Kz (e4.o.drawn g3 e5);have g5:=Kz (b1.o.but e5 (by omega));obtain⟨n1,i8⟩:∃n1:Nat,n1=3+v1:=⟨_,rfl⟩;clear g3 e5 e4 b1;go_wp2
 go_loopg [5] n1 (fun g H wr=>∃(k:Nat) (p':Nat) (v:NJ) (a0:List Qz) (xs:List NJ),H= .int .i64 (k:Int)/\k+g=n1/\a0.length=k/\b0<=p'/\p'<=b0+1+12*k/\aD wr w.heap.size 25 1/\fT 20 (w.alloc (.cells #[.slice none 0 0] 25)) wr p (w.heap.size+1) a r x p' v a0 xs)
 case atStart=>exact⟨0,b0+1,_,[],[],rfl,by omega,rfl,by omega,by omega,g5.o,g4.o⟩
 case round=>
  clear g4 g5;obtain⟨k,p7,v,a0,xs,rfl,hk,hL,m0,m1,g6,F⟩:=hrel;obtain⟨wO,rfl⟩:=aj wr;have⟨HO,j,b1⟩:=dF F hL g6;obtain⟨av,cv,rfl⟩:=ay F.own;clear F hL g6;by_cases m2:(k:Int)<3+ (v1:Int)
  ·obtain⟨qm,e6⟩:∃qm:Nat,qm= (k+1) % n1:=⟨_,rfl⟩;have i9:((k:Int)+1).tmod (3+ (v1:Int))= (qm:Int):=by rw[Int.tmod_eq_emod_of_nonneg (by omega),e6,i8];push_cast;rfl
   have m3:qm<n1:=by rw[e6];exact Nat.mod_lt _ (by omega)
   have j0:((3+ (v1:Int)) == 0)=false:=by rw[beq_eq_false_iff_ne];omega
   clear e6;go_wp2_with fail
   refine (jq _ qm _ (by go_num) (by omega)).mono ?_;rintro J b ⟨G,rfl,m4,k2⟩;have d3:=Kz (Gj HO.o.rd k2 (x:=G) (by omega));have m5:=k2.size;clear k2 i9 j0;obtain⟨wS,e7⟩:=aj ((b.alloc (.cells #[.string G] 9)).alloc (.cells #[.slice (some ⟨b.heap.size,0,none⟩) 1 1,.int .i64 0,.slice none 0 0,.int .i64 1,.int .i64 (-1),.bool false,.bool false,.string ⟨#[]⟩] 176));rw[<-e7] at d3;go_upto_region 7 with fail
   rw[<-e7];clear e7;go_wp2_with fail
   refine (aM _ p a r x p7 _ 3 rfl d3.o.rd (by omega) (by omega) a9).mono ?_;rintro J w3 ⟨v3,rfl,j1,g7,g8⟩;have d4:=Kz (d3.o.drawn g7 g8);clear g7 g8 d3;go_upto_if 26 with fail
   go_cut [6,7] from 26 to 42 (fun s6 _ wx=>∃(g b3:Nat) (s:Xq) (p':Nat),s6= .pointer (some ⟨b.heap.size+1,0,none⟩)/\p7<=p'/\p'<=p7+2/\1<=s.asks.length/\s.asks.length<=2/\s.cases=[]/\SSt wO wx p (b.heap.size+1) a r x p' (.slice (some ⟨g,0,none⟩) s.asks.length b3) (.slice none 0 0) s)
   case first=>
    by_cases h3:v3=0
    ·have e3:((v3:Int) == 0)=true:=by simp[h3]
     clear h3;go_wp2_with fail
     refine (aM _ p a r x (p7+1) _ n1 (by omega) d4.o.rd (by omega) (by omega) a9).mono ?_;rintro J w4 ⟨v4,rfl,m6,g9,h0⟩;have L:=Kz (d4.o.drawn g9 h0);clear g9 h0;go_wp2_with fail
     refine (jq _ v4 _ rfl (by omega)).mono ?_;rintro J w5 ⟨H,rfl,hx,h1⟩;have a1:=Kz (L.o.kept h1);clear h1 L;have y0:=a1.o.box.c0;have yz:=a1.o.box.row.lt;obtain⟨_,e8⟩:=a1.o.box.cell (o:=0) (by omega);have j2:=a1.o.asks.cells (g:=b.heap.size) rfl 0 _ rfl;have m7:b.heap.size<w5.heap.size:=by omega
     rw[MZ,M_] at j2;cases j3:(H.toList == G.toList)
     ·have m8:=j3;obtain⟨ia,j4,j5,j6,j7⟩:=aP Tryz.gJ;have d5:Hid (K_ w5 (w5.alloc (.cells #[.string H] 9))):=ah _ _;have j8:=Kz (a1.o.kept d5.o).asks;have j9:wO.heap.size<=(w5.alloc (.cells #[.string H] 9)).heap.size:=(a1.o.kept d5.o).kb.size;go_wp2_with (at_builtin;refine wpList_append_lies _ rfl (.tmp 38) (.tmp 40) 26 rfl wO.heap.size 9 ia _ 1 16 underlying26 j4 j5 j6 j7 rfl (by decide) (.slice (some ⟨b.heap.size,0,none⟩) 1 1) 1 [.string G] rfl j8.o ⟨w5.heap.size,0,none⟩ 1 1 [.string H] rfl rfl (kU w5 H) (ko H) (by omega) (by unfold maxLen;omega) (by omega) j9 _ rfl ?_;intro g c6 w6 h4 e9 _ _;have d6:=a1.o.t_ d5.o e9;have y2:=d6.c0;have z2:=d6.row.lt;obtain⟨_,f2⟩:=d6.cell (o:=0) (by omega);have k1:=Kz h4;have k3:=Kz e9;clear h4 e9 d6)
      go_meet
      exact⟨g,c6,⟨[G,H],0,[],1, -1,false,false,⟨#[]⟩⟩,p7+2,rfl,by omega,by omega,by show 1<= [G,H].length;simp,by show [G,H].length<=2;simp,rfl,a1.o.pq (x:=H) d5.o k1.o k3.o (by show 1+1<=20;omega) (by omega)⟩
     ·go_wp2
      go_meet
      exact⟨b.heap.size,1,⟨[G],0,[],1, -1,false,false,⟨#[]⟩⟩,p7+2,rfl,by omega,by omega,by show 1<= [G].length;simp,by show [G].length<=2;simp,rfl,a1.o⟩
    ·have e3:((v3:Int) == 0)=false:=by simpa using h3
     clear h3;go_wp2
     go_meet
     exact⟨b.heap.size,1,⟨[G],0,[],1, -1,false,false,⟨#[]⟩⟩,p7+1,rfl,by omega,by omega,by show 1<= [G].length;simp,by show [G].length<=2;simp,rfl,d4.o⟩
   case rest=>
    obtain⟨g,b3,s0,M,rfl,m9,n0,k4,k5,h6,F⟩:=hcut;have⟨HT,b4⟩:=aH F h6;clear F h6 d4 j1;go_wp2_with fail
    refine (aM _ p a r x M _ 6 rfl HT.o.rd (by omega) (by omega) a9).mono ?_;rintro J w5 ⟨v5,rfl,k6,h7,h8⟩;have L:=Kz (HT.o.drawn h7 h8);clear h7 h8 HT;obtain⟨b2,hm⟩:∃b2,b2+1=s0.asks.length:=⟨s0.asks.length-1,by omega⟩;have y0:=L.o.box.c0;have yz:=L.o.box.row.lt;obtain⟨_,e8⟩:=L.o.box.cell (o:=0) (by omega);rw[<-hm] at y0;have HM:=Kz hm;have k7:b2<=1:=by omega
    have k8:b2+1<=b3:=by have:=(L.o.ring b4.o).2.room;omega
    clear hm k4 k5;go_upto_if 45 with fail
    go_cut [6] from 43 to 49 (fun s6 wx=>∃(N:NH) (O:Nat) (s:Xq),s6= .pointer (some ⟨b.heap.size+1,0,none⟩)/\jD wO wx p (b.heap.size+1) a r x (M+1) N O s)
    case first=>
     by_cases h5:v5=0
     ·have k9:((v5:Int) == 0)=true:=by simp[h5]
      clear h5;have i1:(1:Int)<=(b2:Int)+1:=by omega
      have i2:(1:Int)<=(b3:Int):=by omega
      by_cases l0:b3=1
      ·subst l0;obtain rfl:b2=0:=by omega
       go_wp2
       go_meet
       exact⟨_,_,_,rfl,L.o.tail b4.o (by have:=HM.o;omega) (.inl ⟨rfl,rfl⟩) HM.o⟩
      ·go_wp2
       go_meet
       exact⟨_,_,_,rfl,L.o.tail b4.o (by have:=HM.o;omega) (.inr rfl) HM.o⟩
     ·have k9:((v5:Int) == 0)=false:=by simpa using h5
      clear h5;go_wp2
      go_meet
      exact⟨_,_,s0,rfl,(L.o.ring b4.o).2⟩
    case rest=>
     clear L b4 y0 yz e8 HM k7 k8 k6;obtain⟨N,O,s,rfl,F⟩:=hcut;obtain⟨wA,rfl⟩:=aj wc;have HT:=Kz F;have d7:=Kz (HO.o.drawn F.rd F.kb);have d8:w.heap.size<p\/p+1<=w.heap.size:=by omega
     have f0:p<wO.heap.size:=HO.o.rd.row.lt;have h9:=Kz (b1.o.but F.kb d8);have y5:=d7.o.c0;rw[j.o] at y5;have l1:=d7.o.row.lt;have n2:=F.sbl;clear F HO b1;obtain⟨f1,f3,f4,f5,f6⟩:=aP Tryz.mO;have n:Hid (∀(v:NI) (p' q':Nat),fT 20 (w.alloc (.cells #[.slice none 0 0] 25)) v p (w.heap.size+1) a r x p' (.slice av a0.length cv) a0 xs->jD wO v p (b.heap.size+1) a r x q' N O s->(fun (v:NI)=>v.cell? ⟨w.heap.size+1,0,none⟩=some (.slice av k cv)/\v.cell? ⟨b.heap.size+1,0,none⟩=some (.slice N s.asks.length O)/\v.cell? ⟨b.heap.size+1,1,none⟩=some (.int .i64 s.on)/\v.cell? ⟨b.heap.size+1,2,none⟩=some (.slice none 0 0)/\v.cell? ⟨b.heap.size+1,3,none⟩=some (.int .i64 s.els)/\v.cell? ⟨b.heap.size+1,4,none⟩=some (.int .i64 s.fall)/\v.cell? ⟨b.heap.size+1,5,none⟩=some (.bool s.fin)/\v.cell? ⟨b.heap.size+1,6,none⟩=some (.bool s.bad)/\v.cell? ⟨b.heap.size+1,7,none⟩=some (.string s.give)) v):=fun v p' q' l2 h2=>⟨by rw[<-j.o];exact l2.c0,h2.box.c0,h2.box.c1,h2.box.c2,h2.box.c3,h2.box.c4,h2.box.c5,h2.box.c6,h2.box.c7⟩
     have KD:K_ wA wA.drew:=aV wA;have d9:=Kz (d7.o.kept KD);have b5:=Kz (HT.o.kept KD);have f7:=Kz (h9.o.kept KD);go_upto_region 13 with fail
     refine Qk.region (by kernel_rfl) (fun (v:NI)=>v.cell? ⟨w.heap.size+1,0,none⟩=some (.slice av k cv)/\v.cell? ⟨b.heap.size+1,0,none⟩=some (.slice N s.asks.length O)/\v.cell? ⟨b.heap.size+1,1,none⟩=some (.int .i64 s.on)/\v.cell? ⟨b.heap.size+1,2,none⟩=some (.slice none 0 0)/\v.cell? ⟨b.heap.size+1,3,none⟩=some (.int .i64 s.els)/\v.cell? ⟨b.heap.size+1,4,none⟩=some (.int .i64 s.fall)/\v.cell? ⟨b.heap.size+1,5,none⟩=some (.bool s.fin)/\v.cell? ⟨b.heap.size+1,6,none⟩=some (.bool s.bad)/\v.cell? ⟨b.heap.size+1,7,none⟩=some (.string s.give)) 15 (n.o _ _ _ d9.o b5.o) (fun e=>?_);generalize l3:wA.drew=wd at e d9 b5 f7⊢;clear l3 KD d7 HT h9 y5 l1;refine ae 0 e ?_;refine ae 1 e ?_;refine ae 2 e ?_;refine ae 4 e ?_;refine ae 7 e ?_;refine ae 8 e ?_;refine ik 3 9 (fun K c=>?_) (fun K c=>?_)
     ·rw[Nt (by rfl)];go_simp
      go_at_call 111
      refine (jq _ k _ rfl (by omega)).mono ?_;rintro J wl ⟨m,rfl,l4,kl⟩;have P:=Kz (d9.o.kept kl);have a2:=Kz (b5.o.kept kl);have e0:=Kz (f7.o.kept kl)
      skip
      dsimp only;refine c.out _ _ (fun _=>n.o _ _ _ P.o a2.o) ?_;clear c K e;have e:=n.o _ _ _ P.o a2.o;try simp only[upP]
      refine ik 5 9 (fun K c=>?_) (fun K c=>?_)
      ·rw[Nt (by rfl)];go_simp
       go_at_call 19
       refine (aM _ p a r x (M+1) _ 4 rfl P.o.rd (by omega) (by omega) a9).mono ?_;rintro J Q ⟨f,rfl,i0,R,y⟩;have z:=Kz (P.o.drawn R y);have I:=Kz (a2.o.drawn f0 R y);have b6:=Kz (e0.o.but y d8)
       skip
       dsimp only;refine c.out _ _ (fun _=>n.o _ _ _ z.o I.o) ?_;clear c K e R y;have e:=n.o _ _ _ z.o I.o;try simp only[upP]
       have ew:IntKind.i64.wrap (1+ (f:Int))=1+ (f:Int):=by simp[IntKind.wrap,IntKind.bits,IntKind.signed];omega
       refine bY 6 (.int .i64 (1+ (f:Int))) e ?_ ?_
       ·intro u hu;try dsimp only at hu
        go_simp
        try with_reducible rfl
       try simp only[upP]
       clear ew;refine ai 9 (fun K c=>?_);go_simp
       obtain⟨S,T⟩:=aj Q.heap.size;obtain⟨wb,B⟩:=aj (Q.alloc (.cells #[.slice N s.asks.length O,.int .i64 s.on,.slice none 0 0,.int .i64 s.els,.int .i64 s.fall,.bool s.fin,.bool s.bad,.string s.give,.slice none 0 0,.int .i64 0,.slice none 0 0,.int .i64 0,.int .i64 0,.bool true,.bool false,.string ⟨#[114]⟩] 176));have C:K_ Q wb:=by rw[B];exact ah _ _
       have U:=I.o.steps;rw[<-B,<-T] at U;have b7:=Kz U;have A:=Kz (z.o.kept C);have V:=Kz (I.o.kept C);have b8:=Kz (b6.o.kept C);rw[<-B,<-T];refine c.out _ _ (fun _=>n.o _ _ _ A.o V.o) ?_;clear c K e U B T C;have e:=n.o _ _ _ A.o V.o;try simp only[upP]
       refine ae 10 e ?_;refine ae 11 e ?_;refine ai 12 (fun K c=>?_);go_simp
       have l:K_ wb (wb.alloc (.cells #[.string m,.int .i64 (1+ (f:Int)),.slice (some ⟨S,0,none⟩) 2 2] 88)):=ah _ _;have W:=Kz (A.o.kept l);have X:=Kz (V.o.kept l);refine af c (fun _=>n.o _ _ _ W.o X.o) ?_;clear c K e;refine ai 13 (fun K c=>?_);have D:=W.o.own;rw[j.o] at D;have b9:=W.o.kb.size;have c8:Hid (Qz.TinyN 20 ⟨m,1+ (f:Int),[s,bS ⟨#[114]⟩]⟩):=⟨by show m.size<=300;omega,by show -1000<=1+ (f:Int)/\1+ (f:Int)<=1000;omega,by show 2<=21;omega,fun a3 hy=>zS (p:=fun a3=>a3.TinyN 20) hy X.o.tiny (iN (g:=⟨#[114]⟩) (show (1:Nat)<=300 by omega))⟩;refine step_append_lies _ rfl (.tmp 51) (.tmp 62) 23 rfl (w.alloc (.cells #[.slice none 0 0] 25)).heap.size 88 f1 _ 3 48 underlying23 f3 f4 f5 f6 rfl (by decide) (.slice av k cv) k xs (by simp[Act.eval]) D ⟨wb.heap.size,0,none⟩ 1 1 [.string m,.int .i64 (1+ (f:Int)),.slice (some ⟨S,0,none⟩) 2 2] (by simp[Act.eval]) rfl (nC _ _ _ _) (nL _ _ _ _ _) (by omega) (by unfold maxLen;omega) (by omega) b9 _ rfl ?_;intro g a4 Y a5 E c9 i3;have q:=A.o.fK l (by rw[j.o];exact E);have y6:=q.1;rw[j.o] at y6;have i4:=q.2.lt;have i5:=(q.2.row.at (i:=0) (by omega)).2;obtain⟨vo,i6⟩:=(q.2.row.at (i:=0) (by omega)).1;have a6:=b7.o.same (u:=25) (.ax l) (by decide) (by decide) (by decide);have d0:Hid (fT 20 (w.alloc (.cells #[.slice none 0 0] 25)) (Y.setCell ⟨w.heap.size+1,0,none⟩ (.slice (some ⟨g,0,none⟩) (k+1) a4)) p (w.heap.size+1) a r x (M+2) (.slice (some ⟨g,0,none⟩) (k+1) a4) (a0++ [⟨m,1+ (f:Int),[s,bS ⟨#[114]⟩]⟩]) (xs++ [.string m,.int .i64 (1+ (f:Int)),.slice (some ⟨S,0,none⟩) 2 2])):=
        A.o.push (d:=⟨m,1+ (f:Int),[s,bS ⟨#[114]⟩]⟩) l a6 c8.o (by rw[j.o];exact a5) (by rw[j.o];exact E)
       have Z:=aC.aI D E;have d1:Hid (aD Y w.heap.size 25 1):=by
        obtain⟨a7,g1,g2⟩:=b8.o.kept l;exact⟨a7,Z _ a7 _ _ (by decide) g1,g2⟩
       have h:=X.o.box.same Z (by decide);have a8:(fun (v:NI)=>v.cell? ⟨w.heap.size+1,0,none⟩=some (.slice av k cv)/\v.cell? ⟨b.heap.size+1,0,none⟩=some (.slice N s.asks.length O)/\v.cell? ⟨b.heap.size+1,1,none⟩=some (.int .i64 s.on)/\v.cell? ⟨b.heap.size+1,2,none⟩=some (.slice none 0 0)/\v.cell? ⟨b.heap.size+1,3,none⟩=some (.int .i64 s.els)/\v.cell? ⟨b.heap.size+1,4,none⟩=some (.int .i64 s.fall)/\v.cell? ⟨b.heap.size+1,5,none⟩=some (.bool s.fin)/\v.cell? ⟨b.heap.size+1,6,none⟩=some (.bool s.bad)/\v.cell? ⟨b.heap.size+1,7,none⟩=some (.string s.give)) Y:=⟨y6,h.c0,h.c1,h.c2,h.c3,h.c4,h.c5,h.c6,h.c7⟩;clear q D a5 E c9 Z l a6 h;refine af c (fun _=>a8) ?_;clear c K;have e:=a8;refine ae 14 e ?_;refine ai 15 (fun K c=>?_);go_simp
       refine af c (fun d2=>Nv rfl d2) ?_;clear c K;refine aF ?_;go_wp2
       go_roundg (gk-1)
       case rel=>exact⟨k+1,M+2,_,_,_,by go_num,by omega,by rw[MU,j.o];rfl,by omega,by omega,d1.o.block (Below.heap_setCell _ _ _ _ (by simp)),d0.o⟩
       case measure=>omega
      ·go_simp
       obtain⟨S,T⟩:=aj wl.heap.size;obtain⟨wb,B⟩:=aj (wl.alloc (.cells #[.slice N s.asks.length O,.int .i64 s.on,.slice none 0 0,.int .i64 s.els,.int .i64 s.fall,.bool s.fin,.bool s.bad,.string s.give,.slice none 0 0,.int .i64 0,.slice none 0 0,.int .i64 0,.int .i64 0,.bool true,.bool false,.string ⟨#[114]⟩] 176));have C:K_ wl wb:=by rw[B];exact ah _ _
       have U:=a2.o.steps;rw[<-B,<-T] at U;have b7:=Kz U;have A:=Kz (P.o.kept C);have V:=Kz (a2.o.kept C);have b8:=Kz (e0.o.kept C);rw[<-B,<-T];refine c.out _ _ (fun _=>n.o _ _ _ A.o V.o) ?_;clear c K e U B T C;have e:=n.o _ _ _ A.o V.o;try simp only[upP]
       refine aG 5 (fun K c=>?_);go_simp
       go_at_call 19
       refine (aM _ p a r x (M+1) _ 4 rfl A.o.rd (by omega) (by omega) a9).mono ?_;rintro J Q ⟨f,rfl,i0,R,y⟩;have z:=Kz (A.o.drawn R y);have I:=Kz (V.o.drawn f0 R y);have b6:=Kz (b8.o.but y d8);have f8:=Kz (b7.o.same (y.sameKind A.o.rd) (by decide) (by decide) (by decide));dsimp only;refine c.out _ _ (fun _=>n.o _ _ _ z.o I.o) ?_;clear c K e R y;have e:=n.o _ _ _ z.o I.o;try simp only[upP]
       have ew:IntKind.i64.wrap (1+ (f:Int))=1+ (f:Int):=by simp[IntKind.wrap,IntKind.bits,IntKind.signed];omega
       refine bY 6 (.int .i64 (1+ (f:Int))) e ?_ ?_
       ·intro u hu;try dsimp only at hu
        go_simp
        try with_reducible rfl
       try simp only[upP]
       clear ew;refine ae 10 e ?_;refine ae 11 e ?_;refine ai 12 (fun K c=>?_);go_simp
       have l:K_ Q (Q.alloc (.cells #[.string m,.int .i64 (1+ (f:Int)),.slice (some ⟨S,0,none⟩) 2 2] 88)):=ah _ _;have W:=Kz (z.o.kept l);have X:=Kz (I.o.kept l);refine af c (fun _=>n.o _ _ _ W.o X.o) ?_;clear c K e;refine ai 13 (fun K c=>?_);have D:=W.o.own;rw[j.o] at D;have b9:=W.o.kb.size;have c8:Hid (Qz.TinyN 20 ⟨m,1+ (f:Int),[s,bS ⟨#[114]⟩]⟩):=⟨by show m.size<=300;omega,by show -1000<=1+ (f:Int)/\1+ (f:Int)<=1000;omega,by show 2<=21;omega,fun a3 hy=>zS (p:=fun a3=>a3.TinyN 20) hy X.o.tiny (iN (g:=⟨#[114]⟩) (show (1:Nat)<=300 by omega))⟩;refine step_append_lies _ rfl (.tmp 51) (.tmp 62) 23 rfl (w.alloc (.cells #[.slice none 0 0] 25)).heap.size 88 f1 _ 3 48 underlying23 f3 f4 f5 f6 rfl (by decide) (.slice av k cv) k xs (by simp[Act.eval]) D ⟨Q.heap.size,0,none⟩ 1 1 [.string m,.int .i64 (1+ (f:Int)),.slice (some ⟨S,0,none⟩) 2 2] (by simp[Act.eval]) rfl (nC _ _ _ _) (nL _ _ _ _ _) (by omega) (by unfold maxLen;omega) (by omega) b9 _ rfl ?_;intro g a4 Y a5 E c9 i3;have q:=z.o.fK l (by rw[j.o];exact E);have y6:=q.1;rw[j.o] at y6;have i4:=q.2.lt;have i5:=(q.2.row.at (i:=0) (by omega)).2;obtain⟨vo,i6⟩:=(q.2.row.at (i:=0) (by omega)).1;have a6:=f8.o.same (u:=25) (.ax l) (by decide) (by decide) (by decide);have d0:Hid (fT 20 (w.alloc (.cells #[.slice none 0 0] 25)) (Y.setCell ⟨w.heap.size+1,0,none⟩ (.slice (some ⟨g,0,none⟩) (k+1) a4)) p (w.heap.size+1) a r x (M+2) (.slice (some ⟨g,0,none⟩) (k+1) a4) (a0++ [⟨m,1+ (f:Int),[s,bS ⟨#[114]⟩]⟩]) (xs++ [.string m,.int .i64 (1+ (f:Int)),.slice (some ⟨S,0,none⟩) 2 2])):=
        z.o.push (d:=⟨m,1+ (f:Int),[s,bS ⟨#[114]⟩]⟩) l a6 c8.o (by rw[j.o];exact a5) (by rw[j.o];exact E)
       have Z:=aC.aI D E;have d1:Hid (aD Y w.heap.size 25 1):=by
        obtain⟨a7,g1,g2⟩:=b6.o.kept l;exact⟨a7,Z _ a7 _ _ (by decide) g1,g2⟩
       have h:=X.o.box.same Z (by decide);have a8:(fun (v:NI)=>v.cell? ⟨w.heap.size+1,0,none⟩=some (.slice av k cv)/\v.cell? ⟨b.heap.size+1,0,none⟩=some (.slice N s.asks.length O)/\v.cell? ⟨b.heap.size+1,1,none⟩=some (.int .i64 s.on)/\v.cell? ⟨b.heap.size+1,2,none⟩=some (.slice none 0 0)/\v.cell? ⟨b.heap.size+1,3,none⟩=some (.int .i64 s.els)/\v.cell? ⟨b.heap.size+1,4,none⟩=some (.int .i64 s.fall)/\v.cell? ⟨b.heap.size+1,5,none⟩=some (.bool s.fin)/\v.cell? ⟨b.heap.size+1,6,none⟩=some (.bool s.bad)/\v.cell? ⟨b.heap.size+1,7,none⟩=some (.string s.give)) Y:=⟨y6,h.c0,h.c1,h.c2,h.c3,h.c4,h.c5,h.c6,h.c7⟩;clear q D a5 E c9 Z l a6 h;refine af c (fun _=>a8) ?_;clear c K;have e:=a8;refine ae 14 e ?_;refine ai 15 (fun K c=>?_);go_simp
       refine af c (fun d2=>Nv rfl d2) ?_;clear c K;refine aF ?_;go_wp2
       go_roundg (gk-1)
       case rel=>exact⟨k+1,M+2,_,_,_,by go_num,by omega,by rw[MU,j.o];rfl,by omega,by omega,d1.o.block (Below.heap_setCell _ _ _ _ (by simp)),d0.o⟩
       case measure=>omega
     ·go_simp
      obtain⟨S,T⟩:=aj wd.heap.size;obtain⟨wb,B⟩:=aj (wd.alloc (.cells #[.slice N s.asks.length O,.int .i64 s.on,.slice none 0 0,.int .i64 s.els,.int .i64 s.fall,.bool s.fin,.bool s.bad,.string s.give,.slice none 0 0,.int .i64 0,.slice none 0 0,.int .i64 0,.int .i64 0,.bool true,.bool false,.string ⟨#[114]⟩] 176));have C:K_ wd wb:=by rw[B];exact ah _ _
      have U:=b5.o.steps;rw[<-B,<-T] at U;have b7:=Kz U;have A:=Kz (d9.o.kept C);have V:=Kz (b5.o.kept C);have b8:=Kz (f7.o.kept C);rw[<-B,<-T];refine c.out _ _ (fun _=>n.o _ _ _ A.o V.o) ?_;clear c K e U B T C;have e:=n.o _ _ _ A.o V.o;try simp only[upP]
      refine aG 3 (fun K c=>?_);go_simp
      go_at_call 111
      refine (jq _ k _ rfl (by omega)).mono ?_;rintro J wl ⟨m,rfl,l4,kl⟩;have P:=Kz (A.o.kept kl);have a2:=Kz (V.o.kept kl);have e0:=Kz (b8.o.kept kl);have l5:=Kz (b7.o.same (u:=25) (.ax kl) (by decide) (by decide) (by decide));dsimp only;refine c.out _ _ (fun _=>n.o _ _ _ P.o a2.o) ?_;clear c K e;have e:=n.o _ _ _ P.o a2.o;try simp only[upP]
      refine aG 5 (fun K c=>?_);go_simp
      go_at_call 19
      refine (aM _ p a r x (M+1) _ 4 rfl P.o.rd (by omega) (by omega) a9).mono ?_;rintro J Q ⟨f,rfl,i0,R,y⟩;have z:=Kz (P.o.drawn R y);have I:=Kz (a2.o.drawn f0 R y);have b6:=Kz (e0.o.but y d8);have f8:=Kz (l5.o.same (y.sameKind P.o.rd) (by decide) (by decide) (by decide));dsimp only;refine c.out _ _ (fun _=>n.o _ _ _ z.o I.o) ?_;clear c K e R y;have e:=n.o _ _ _ z.o I.o;try simp only[upP]
      have ew:IntKind.i64.wrap (1+ (f:Int))=1+ (f:Int):=by simp[IntKind.wrap,IntKind.bits,IntKind.signed];omega
      refine bY 6 (.int .i64 (1+ (f:Int))) e ?_ ?_
      ·intro u hu;try dsimp only at hu
       go_simp
       try with_reducible rfl
      try simp only[upP]
      clear ew;refine ae 10 e ?_;refine ae 11 e ?_;refine ai 12 (fun K c=>?_);go_simp
      have l:K_ Q (Q.alloc (.cells #[.string m,.int .i64 (1+ (f:Int)),.slice (some ⟨S,0,none⟩) 2 2] 88)):=ah _ _;have W:=Kz (z.o.kept l);have X:=Kz (I.o.kept l);refine af c (fun _=>n.o _ _ _ W.o X.o) ?_;clear c K e;refine ai 13 (fun K c=>?_);have D:=W.o.own;rw[j.o] at D;have b9:=W.o.kb.size;have c8:Hid (Qz.TinyN 20 ⟨m,1+ (f:Int),[s,bS ⟨#[114]⟩]⟩):=⟨by show m.size<=300;omega,by show -1000<=1+ (f:Int)/\1+ (f:Int)<=1000;omega,by show 2<=21;omega,fun a3 hy=>zS (p:=fun a3=>a3.TinyN 20) hy X.o.tiny (iN (g:=⟨#[114]⟩) (show (1:Nat)<=300 by omega))⟩;refine step_append_lies _ rfl (.tmp 51) (.tmp 62) 23 rfl (w.alloc (.cells #[.slice none 0 0] 25)).heap.size 88 f1 _ 3 48 underlying23 f3 f4 f5 f6 rfl (by decide) (.slice av k cv) k xs (by simp[Act.eval]) D ⟨Q.heap.size,0,none⟩ 1 1 [.string m,.int .i64 (1+ (f:Int)),.slice (some ⟨S,0,none⟩) 2 2] (by simp[Act.eval]) rfl (nC _ _ _ _) (nL _ _ _ _ _) (by omega) (by unfold maxLen;omega) (by omega) b9 _ rfl ?_;intro g a4 Y a5 E c9 i3;have q:=z.o.fK l (by rw[j.o];exact E);have y6:=q.1;rw[j.o] at y6;have i4:=q.2.lt;have i5:=(q.2.row.at (i:=0) (by omega)).2;obtain⟨vo,i6⟩:=(q.2.row.at (i:=0) (by omega)).1;have a6:=f8.o.same (u:=25) (.ax l) (by decide) (by decide) (by decide);have d0:Hid (fT 20 (w.alloc (.cells #[.slice none 0 0] 25)) (Y.setCell ⟨w.heap.size+1,0,none⟩ (.slice (some ⟨g,0,none⟩) (k+1) a4)) p (w.heap.size+1) a r x (M+2) (.slice (some ⟨g,0,none⟩) (k+1) a4) (a0++ [⟨m,1+ (f:Int),[s,bS ⟨#[114]⟩]⟩]) (xs++ [.string m,.int .i64 (1+ (f:Int)),.slice (some ⟨S,0,none⟩) 2 2])):=
       z.o.push (d:=⟨m,1+ (f:Int),[s,bS ⟨#[114]⟩]⟩) l a6 c8.o (by rw[j.o];exact a5) (by rw[j.o];exact E)
      have Z:=aC.aI D E;have d1:Hid (aD Y w.heap.size 25 1):=by
       obtain⟨a7,g1,g2⟩:=b6.o.kept l;exact⟨a7,Z _ a7 _ _ (by decide) g1,g2⟩
      have h:=X.o.box.same Z (by decide);have a8:(fun (v:NI)=>v.cell? ⟨w.heap.size+1,0,none⟩=some (.slice av k cv)/\v.cell? ⟨b.heap.size+1,0,none⟩=some (.slice N s.asks.length O)/\v.cell? ⟨b.heap.size+1,1,none⟩=some (.int .i64 s.on)/\v.cell? ⟨b.heap.size+1,2,none⟩=some (.slice none 0 0)/\v.cell? ⟨b.heap.size+1,3,none⟩=some (.int .i64 s.els)/\v.cell? ⟨b.heap.size+1,4,none⟩=some (.int .i64 s.fall)/\v.cell? ⟨b.heap.size+1,5,none⟩=some (.bool s.fin)/\v.cell? ⟨b.heap.size+1,6,none⟩=some (.bool s.bad)/\v.cell? ⟨b.heap.size+1,7,none⟩=some (.string s.give)) Y:=⟨y6,h.c0,h.c1,h.c2,h.c3,h.c4,h.c5,h.c6,h.c7⟩;clear q D a5 E c9 Z l a6 h;refine af c (fun _=>a8) ?_;clear c K;have e:=a8;refine ae 14 e ?_;refine ai 15 (fun K c=>?_);go_simp
      refine af c (fun d2=>Nv rfl d2) ?_;clear c K;refine aF ?_;go_wp2
      go_roundg (gk-1)
      case rel=>exact⟨k+1,M+2,_,_,_,by go_num,by omega,by rw[MU,j.o];rfl,by omega,by omega,d1.o.block (Below.heap_setCell _ _ _ _ (by simp)),d0.o⟩
      case measure=>omega
  ·have y0:=HO.o.c0;rw[j.o] at y0;have zb:=HO.o.row.lt;have hG:=HO.o.web;rw[j.o] at hG;have f9:=uD wO av cv a0 (mN:=20) (by omega) (by have:=j.o;omega) HO.o.tiny (by rw[j.o];exact hG);rw[j.o] at f9;have l6:=Kz f9;clear hG f9;go_wp2_with fail
   refine l6.o.mono ?_;intro J w6 hs;obtain⟨va,vn,vc,rfl,e1,hD⟩:=HO.o.sorted (p:=b0) (t:=400) hs b1.o (Me _) k0 i7.o (by omega) (by omega);have⟨HD,l7⟩:=aH hD e1;have z6:=e1.lt;obtain⟨⟨_,u0⟩,e8⟩:=e1.row.at (i:=0) (by omega);clear hD e1 hs;go_wp2
   have hR:=Mi w6 w.heap.size 0 [.slice va vn vc] (l7.o.row.there (o:=0) (m:=1) (Me _));exact Zx [.slice va vn vc] _ results159 rfl hR underlying25 rfl Tryz.gV rfl HD.o
theorem Hy :pM 160 400 20 60 700000:=by
 intro w l a C D H T hp Z;have k0:K_ w (w.alloc (.cells #[.slice none 0 0] 25)):=ah _ _;have d5:Hid (Rd (w.alloc (.cells #[.slice none 0 0] 25)) l a C D H):=T.kept k0;have j5:=T.row.lt;have Q:Hid (aD ((w.alloc (.cells #[.slice none 0 0] 25)).alloc (.cells #[.slice none 0 0] 25)) w.heap.size 25 1):=(aD.made w _ _).kept (ah _ _);have b7:=fT.made (mN:=20) d5.o d5.o (Xj.refl _ _ _);rw[MS] at b7;have⟨b8,g6⟩:=aH b7 T;clear T b7;go_enter func160,ntmps160
 go_wp2_with fail
 refine (aM _ l a C D H _ 14 rfl b8.o.rd (by omega) (by omega) Z).mono ?_;rintro e w1 ⟨v1,rfl,j6,d6,b9⟩;have d7:=Kz (b8.o.drawn d6 b9);have d8:=Kz (Q.o.but b9 (by omega));obtain⟨n1,j7⟩:∃n1:Nat,n1=12+v1:=⟨_,rfl⟩;clear d6 b9 b8 Q;go_wp2
 go_loopg [5] n1 (fun g x wr=>∃(k:Nat) (p':Nat) (v:NJ) (a0:List Qz) (xs:List NJ),x= .int .i64 (k:Int)/\k+g=n1/\a0.length=k/\H<=p'/\p'<=H+1+12*k/\aD wr w.heap.size 25 1/\fT 20 (w.alloc (.cells #[.slice none 0 0] 25)) wr l (w.heap.size+1) a C D p' v a0 xs)
 case atStart=>exact⟨0,H+1,_,[],[],rfl,by omega,rfl,by omega,by omega,d8.o,d7.o⟩
 case round=>
  clear d7 d8;obtain⟨k,p7,v,a0,xs,rfl,hk,hL,j8,j9,d9,f⟩:=hrel;obtain⟨wO,rfl⟩:=aj wr;obtain⟨gO,rfl⟩:=aj gk;have⟨I,n,Q⟩:=dF f hL d9;obtain⟨av,cv,rfl⟩:=ay f.own;clear f hL d9;by_cases k1:(k:Int)<12+ (v1:Int)
  ·go_wp2_with fail
   refine (aM _ l a C D p7 _ 9 rfl I.o.rd (by omega) (by omega) Z).mono ?_;rintro e J ⟨j,rfl,k2,e0,e1⟩;have c3:=Kz (ASt.made I.o.rd e0 e1 (1+ (j:Int)));clear e0 e1;go_wp2_with fail
   refine (aM _ l a C D (p7+1) _ 3 rfl c3.o.rd (by omega) (by omega) Z).mono ?_;rintro e w3 ⟨a2,rfl,hq,e2,e3⟩;have e4:=Kz (c3.o.drawn e2 e3);clear e2 e3 c3;go_wp2
   go_loopg [7] a2 (fun g x wr=>∃(p':Nat) (v:NJ) (c:List Xq) (ys:List NJ),x= .int .i64 (g:Int)/\g<=a2/\H<=p'/\p'+5*g<=p7+2+5*a2/\c.length+g<=a2/\ASt wO wr l J.heap.size a C D p' (1+ (j:Int)) v c ys)
   case atStart=>exact⟨p7+2,_,[],[],rfl,Me _,by omega,by omega,by simp,e4.o⟩
   case round=>
    clear e4;obtain⟨p8,vs,c,ys,rfl,k3,k4,k5,k7,f⟩:=hrel;obtain⟨K,rfl⟩:=aj wr;obtain⟨gI,rfl⟩:=aj gk;have L:=Kz f;obtain⟨sv,sc,rfl⟩:=ay f.own;have a1:=f.c1;have az:=f.row.lt;clear f;by_cases g7:(0:Int)<(gI:Int)
    ·have g8:c.length<=3:=by omega
     have c4:=Kz (SSt.made L.o.rd (els:=(c.length:Int)+1) (fall:= -1) (by omega) (by omega));go_wp2_with fail
     refine (aM _ l a C D p8 _ 4 rfl c4.o.rd (by omega) (by omega) Z).mono ?_;rintro e w4 ⟨q2,rfl,k8,e5,e6⟩;have e7:=Kz (c4.o.drawn e5 e6);clear e5 e6 c4;go_wp2
     go_loopg [9] (1+q2) (fun g x wr=>∃(va:NJ) (s:Xq) (p':Nat),x= .int .i64 (g:Int)/\g<=1+q2/\H<=p'/\p'+g<=p8+2+q2/\s.asks.length+g<=4/\s.cases=[]/\SSt K wr l K.heap.size a C D p' va (.slice none 0 0) s)
     case atStart=>exact⟨_,_,p8+1,by go_num,Me _,by omega,by omega,by show 0+ (1+q2)<=4;omega,rfl,e7.o⟩
     case round=>
      clear e7;obtain⟨va,s,p9,rfl,k9,l0,l1,l2,e8,f⟩:=hrel;have⟨M,f0⟩:=aH f e8;clear f e8;go_upto_region 12 with fail
      go_cut [43] from 38 to 43 (fun g9 wx=>∃b:Bool,g9= .bool b/\wx=wr/\(b=true->0<gk/\0<k))
      case first=>
       by_cases l3:(0:Int)<(gk:Int)
       ·by_cases h2:(0:Int)<(k:Int)
        ·go_wp2
         go_meet
         exact⟨_,rfl,rfl,fun _=>⟨by omega,by omega⟩⟩
        ·go_wp2
         go_meet
         exact⟨_,rfl,rfl,fun a3=>by simp at a3;omega⟩
       ·go_wp2
        go_meet
        exact⟨false,rfl,rfl,fun a3=>by cases a3⟩
      case rest=>
       obtain⟨b,rfl,rfl,hb⟩:=hcut;have HB:=Kz hb;clear hb;cases b
       ·obtain⟨wJ,rfl⟩:=aj wc;have U:=Kz (L.o.drawn M.o.rd M.o.kb);obtain⟨aa,ca,a5,a6,rfl,f1,hT⟩:=M.o.cells;have p:=Kz M.o;rw[f1] at p;have HT:=Kz hT;clear hT f1 M;have c0:=p.o.box.c0;have c1:=p.o.box.c1;have c2:=p.o.box.c2;have l4:=p.o.box.c3;have l5:=p.o.box.c4;have c5:=p.o.box.c5;have l6:=p.o.box.c6;have l7:=p.o.box.c7;have cz:=p.o.box.row.lt;have b1:=U.o.c1;have bz:=U.o.row.lt;have h:Hid (K_ wJ (wJ.alloc (.cells #[.slice aa s.asks.length ca,.int .i64 s.on,.slice a5 s.cases.length a6,.int .i64 s.els,.int .i64 s.fall,.bool s.fin,.bool s.bad,.string s.give] 176))):=ah _ _;have V:=Kz (U.o.kept h.o).own;have a7:=Kz (U.o.kept h.o).kb.size;have a8:=Kz (ER wJ #[.slice aa s.asks.length ca,.int .i64 s.on,.slice a5 s.cases.length a6,.int .i64 s.els,.int .i64 s.fall,.bool s.fin,.bool s.bad,.string s.give]);obtain⟨ic,c6,c7,c8,d0⟩:=aP Tryz.jX;go_wp2_with (at_builtin;refine wpList_append_own _ rfl (.tmp 62) (.tmp 64) 71 rfl wO.heap.size 176 ic _ 8 96 underlying71 c6 c7 c8 d0 rfl (by decide) (.slice sv c.length sc) c.length ys rfl V.o ⟨wJ.heap.size,0,none⟩ 1 1 (s.cells aa ca a5 a6) rfl rfl a8.o (jd s aa ca a5 a6) (by unfold maxLen;omega) (by omega) a7.o ?_;intro v' w5 r y _;have q:=U.o.fK h.o y;have z2:=q.2.lt;obtain⟨⟨_,y2⟩,f2⟩:=q.2.row.at (i:=1) (by omega);have W:=Kz r;obtain⟨N,O,rfl⟩:=ay r;have X:=Kz y;clear r y q)
        go_roundg (gI-1)
        case measure=>omega
        case rel=>exact⟨p9,_,c++ [s],_,by go_num,by omega,by omega,by omega,by rw[MU];show c.length+1+ (gI-1)<=a2;omega,U.o.push h.o HT.o p.o.tiny (p.o.nV rfl rfl) W.o X.o⟩
       ·obtain⟨l8,l9⟩:=HB.o rfl;obtain⟨wJ,rfl⟩:=aj wc;go_wp2_with fail
        refine (og _ l a C D p9 k M.o.rd (by omega) (by omega) Z).mono ?_;rintro e w5 ⟨v5,rfl,m0,f3,f4⟩;have f5:=Kz (M.o.drawn f3 f4);clear f3 f4 M;go_wp2_with fail
        refine (jq _ v5 _ rfl (by omega)).mono ?_;rintro e G ⟨x,rfl,hx,k6⟩;have z:=Kz (f5.o.kept k6);clear k6 f5;obtain⟨d1,f6,rfl⟩:=ay z.o.asks;have y0:=z.o.box.c0;have yz:=z.o.box.row.lt;obtain⟨_,h0⟩:=z.o.box.cell (o:=0) (by omega);have m1:s.asks.length<=20:=z.o.tiny.asks;have h1:Hid (Strs G d1 s.asks):=by
         obtain⟨a9,c9,e9,_,hT⟩:=dh z.o.asks;simp only[MW] at e9;obtain⟨rfl,_,rfl⟩:=e9;exact hT.strs
        go_wp2_with fail
        refine (tX _ d1 f6 s.asks x (by omega) h1.o).mono ?_;rintro e w7 ⟨⟨r7,rfl,_⟩,rfl⟩;cases r7
        ·obtain⟨ia,h3,h4,h5,h6⟩:=aP Tryz.gJ;have h:Hid (K_ w7 (w7.alloc (.cells #[.string x] 9))):=ah _ _;have V:=Kz (z.o.kept h.o).asks;have h7:K.heap.size<=(w7.alloc (.cells #[.string x] 9)).heap.size:=(z.o.kept h.o).kb.size;go_wp2_with (at_builtin;refine wpList_append_own _ rfl (.tmp 56) (.tmp 58) 26 rfl K.heap.size 9 ia _ 1 16 underlying26 h3 h4 h5 h6 rfl (by decide) (.slice d1 s.asks.length f6) s.asks.length (s.asks.map Value.string) rfl V.o ⟨w7.heap.size,0,none⟩ 1 1 [.string x] rfl rfl (kU w7 x) (ko x) (by unfold maxLen;omega) (by omega) h7 ?_;intro v' w8 r y _;have q:=z.o.t_ h.o y;have y2:=q.c0;have z2:=q.row.lt;obtain⟨_,f2⟩:=q.cell (o:=0) (by omega);have W:=Kz r;obtain⟨m2,m3,rfl⟩:=ay r;have X:=Kz y;clear r y q)
         ·rename_i hfz
          rw[f2] at hfz;cases hfz
         go_roundg (gk-1)
         case measure=>omega
         case rel=>exact⟨_,{s with asks:=s.asks++ [x]},p9+1,by go_num,by omega,by omega,by omega,by show (s.asks++ [x]).length+ (gk-1)<=4;rw[MU];show s.asks.length+1+ (gk-1)<=4;omega,f0.o,z.o.pq h.o W.o X.o (by omega) (by omega)⟩
        ·go_wp2
         go_roundg (gk-1)
         case measure=>omega
         case rel=>exact⟨_,s,p9+1,by go_num,by omega,by omega,by omega,by omega,f0.o,z.o⟩
    ·have m4:¬(0:Int)<(gI:Int):=g7;have g8:c.length<=3:=by omega
     obtain⟨ic,c6,c7,c8,d0⟩:=aP Tryz.jX;have h:Hid (K_ K (K.alloc (.cells #[.slice none 0 0,.int .i64 0,.slice none 0 0,.int .i64 0,.int .i64 0,.bool true,.bool false,.string ⟨#[119]⟩] 176))):=ah _ _;have V:=Kz (L.o.kept h.o).own;have a7:=Kz (L.o.kept h.o).kb.size;have a8:=Kz (ER K #[.slice none 0 0,.int .i64 0,.slice none 0 0,.int .i64 0,.int .i64 0,.bool true,.bool false,.string ⟨#[119]⟩]);have h8:=Kz L.o;go_upto_region 19 with (at_builtin;refine wpList_append_own _ rfl (.tmp 68) (.tmp 70) 71 rfl wO.heap.size 176 ic _ 8 96 underlying71 c6 c7 c8 d0 rfl (by decide) (.slice sv c.length sc) c.length ys rfl V.o ⟨K.heap.size,0,none⟩ 1 1 ((bS ⟨#[119]⟩).cells none 0 none 0) rfl rfl a8.o (jd (bS ⟨#[119]⟩) none 0 none 0) (by unfold maxLen;omega) (by omega) a7.o ?_;intro v' w5 r y _;have q:=L.o.fK h.o y;have z2:=q.2.lt;obtain⟨⟨_,y2⟩,f2⟩:=q.2.row.at (i:=1) (by omega);have W:=Kz r;obtain⟨N,O,rfl⟩:=ay r;have X:=Kz y;clear r y q)
     have A:=L.o.push h.o (sM _ ⟨#[119]⟩) (iN (show (1:Nat)<=300 by omega)) (oH _) W.o X.o;have b0:(c++ [bS ⟨#[119]⟩]).length=c.length+1:=by simp
     obtain⟨LT,f7⟩:=aj (c++ [bS ⟨#[119]⟩]);rw[<-f7] at A b0;obtain⟨P,f8⟩:=aj (c.length+1);rw[<-f8] at A b0⊢;obtain⟨wA,f9⟩:=aj (w5.setCell ⟨J.heap.size,1,none⟩ (.slice N P O));rw[<-f9] at A⊢;have⟨d2,h9⟩:=aH A b0;have m5:P<=4:=by omega
     have Y:=Kz (I.o.drawn A.rd A.kb);have i0:w.heap.size<l\/l+1<=w.heap.size:=by omega
     have i1:=Kz (Q.o.but A.kb i0);have q0:=A.c0;have q1:=A.c1;have qz:=A.row.lt;have y5:=Y.o.c0;rw[n.o] at y5;have i2:=Y.o.row.lt;have m6:w.heap.size≠w.heap.size+1:=by omega
     clear f7 f8 b0 f9 A W X V a8 a7 h L h8 a1 az z2 y2 f2 Q;obtain⟨i3,i4,i5,i6,i7⟩:=aP Tryz.mO;have b2:Hid (∀v:NI,K_ wA v->(fun (v:NI)=>v.cell? ⟨w.heap.size+1,0,none⟩=some (.slice av k cv)/\v.cell? ⟨J.heap.size,0,none⟩=some (.int .i64 (1+ (j:Int)))/\v.cell? ⟨J.heap.size,1,none⟩=some (.slice N P O)) v):=fun v kk=>⟨(kk.cell i2).trans y5,(kk.cell qz).trans q0,(kk.cell qz).trans q1⟩
     refine Qk.region (by kernel_rfl) (fun (v:NI)=>v.cell? ⟨w.heap.size+1,0,none⟩=some (.slice av k cv)/\v.cell? ⟨J.heap.size,0,none⟩=some (.int .i64 (1+ (j:Int)))/\v.cell? ⟨J.heap.size,1,none⟩=some (.slice N P O)) 9 ⟨y5,q0,q1⟩ (fun E=>?_);refine ae 0 E ?_;refine ae 1 E ?_;refine ae 2 E ?_;refine ae 4 E ?_;refine aG 3 (fun R B=>?_);go_simp
     go_at_call 111
     refine (jq _ k _ rfl (by omega)).mono ?_;rintro e G ⟨S,rfl,m7,k6⟩;have K6:K_ wA G:=(aV _).trans k6;dsimp only;refine B.out _ _ (fun _=>b2.o G K6) ?_;clear B R E k6;have E:=b2.o G K6;try simp only[upP]
     refine ae 5 E ?_;refine ai 6 (fun R B=>?_);go_simp
     have F:K_ wA (G.alloc (.cells #[.string S,.int .i64 (1+ (j:Int)),.slice N P O] 88)):=K6.alloc _;refine af B (fun _=>b2.o _ F) ?_;clear B R E;refine ai 7 (fun R B=>?_);have b3:=(Y.o.kept F).own;rw[n.o] at b3;have i8:=(Y.o.kept F).kb.size;have i9:Hid (Qz.TinyN 20 ⟨S,1+ (j:Int),LT⟩):=⟨by show S.size<=300;omega,by show -1000<=1+ (j:Int)/\1+ (j:Int)<=1000;omega,by show LT.length<=21;have:=h9.o;omega,d2.o.tiny⟩;refine step_append_lies _ rfl (.tmp 74) (.tmp 79) 23 rfl (w.alloc (.cells #[.slice none 0 0] 25)).heap.size 88 i3 _ 3 48 underlying23 i4 i5 i6 i7 rfl (by decide) (.slice av k cv) k xs (by simp[Act.eval]) b3 ⟨G.heap.size,0,none⟩ 1 1 [.string S,.int .i64 (1+ (j:Int)),.slice N P O] (by simp[Act.eval]) rfl (nC _ _ _ _) (nL _ _ _ _ _) (by omega) (by unfold maxLen;omega) (by omega) i8 _ rfl ?_;intro g g0 w8 g2 b4 j0 m8;have a4:=Y.o.fK F (by rw[n.o];exact b4);have y6:=a4.1;rw[n.o] at y6;have m9:=a4.2.lt;have n0:=(a4.2.row.at (i:=0) (by omega)).2;obtain⟨vo,n2⟩:=(a4.2.row.at (i:=0) (by omega)).1;have g3:=d2.o.g.same (u:=25) (.ax F) (by decide) (by decide) (by decide);have j1:Hid (fT 20 (w.alloc (.cells #[.slice none 0 0] 25)) (w8.setCell ⟨w.heap.size+1,0,none⟩ (.slice (some ⟨g,0,none⟩) (k+1) g0)) l (w.heap.size+1) a C D p8 (.slice (some ⟨g,0,none⟩) (k+1) g0) (a0++ [⟨S,1+ (j:Int),LT⟩]) (xs++ [.string S,.int .i64 (1+ (j:Int)),.slice N P O])):=
      Y.o.push (d:=⟨S,1+ (j:Int),LT⟩) F g3 i9.o (by rw[n.o];exact g2) (by rw[n.o];exact b4)
     have d3:=aC.aI b3 b4;have j2:Hid (aD w8 w.heap.size 25 1):=by
      obtain⟨b5,g1,g4⟩:=i1.o.kept F;exact⟨b5,d3 _ b5 _ _ (by decide) g1,g4⟩
     have g5:(fun (v:NI)=>v.cell? ⟨w.heap.size+1,0,none⟩=some (.slice av k cv)/\v.cell? ⟨J.heap.size,0,none⟩=some (.int .i64 (1+ (j:Int)))/\v.cell? ⟨J.heap.size,1,none⟩=some (.slice N P O)) w8:=by
      obtain⟨b5,g1,g4⟩:=d2.o.row.kept F;have hb:=d3 _ b5 _ _ (by decide) g1;have f:=b2.o _ F;exact⟨y6,by rw[Mt (hb.trans g1.symm)];exact f.2.1,by rw[Mt (hb.trans g1.symm)];exact f.2.2⟩
     clear a4 b3 g2 b4 j0 d3 F g3;refine af B (fun _=>g5) ?_;clear B R;have E:=g5;refine ae 8 E ?_;refine ai 9 (fun R B=>?_);go_simp
     refine af B (fun a3=>Nv rfl a3) ?_;clear B R;refine aF ?_;go_wp2
     go_roundg (gO-1)
     case rel=>exact⟨k+1,p8,_,_,_,by go_num,by omega,by rw[MU,n.o];rfl,by omega,by omega,j2.o.block (Below.heap_setCell _ _ _ _ (by simp)),j1.o⟩
     case measure=>omega
  ·have y0:=I.o.c0;rw[n.o] at y0;have zb:=I.o.row.lt;have hG:=I.o.web;rw[n.o] at hG;have d4:=uD wO av cv a0 (mN:=20) (by omega) (by have:=n.o;omega) I.o.tiny (by rw[n.o];exact hG);rw[n.o] at d4;have⟨j3,n3⟩:=aH d4 Q.o;clear hG d4;go_wp2_with fail
   refine j3.o.mono ?_;intro e G hs;obtain⟨va,vn,vc,rfl,b6,hD⟩:=I.o.sorted (p:=H) (t:=400) hs Q.o (Me _) k0 g6.o (by omega) (by omega);have⟨HD,j4⟩:=aH hD b6;have z6:=b6.lt;obtain⟨⟨_,u0⟩,h0⟩:=b6.row.at (i:=0) (by omega);clear hD b6 hs;go_wp2
   have T:=Mi G w.heap.size 0 [.slice va vn vc] (j4.o.row.there (o:=0) (m:=1) (Me _));exact Zx [.slice va vn vc] _ results160 rfl T underlying25 rfl Tryz.gV rfl HD.o
theorem jb.rbl(h:jb m w wr rb wb a cap bs p v L):rb<w.heap.size:=let ⟨_,h0⟩:=h.rd0;h0.row.lt
theorem jb.drawn(h:jb m w wr rb wb a cap bs p v L)(c:Rd w' rb a cap bs p')(k:Xj rb (rb+1) wr w'):jb m w w' rb wb a cap bs p' v L:=by
 have d:=k.sameKind h.rd;have:=h.rbl;have:=h.wbl;exact⟨c,h.rd0,h.wbl,h.kb.trans k,h.row.but k E5,(k.cell h.row.lt E5).trans h.c0,h.web.same d E8 E8 E8 E8,h.tiny,h.fr⟩
theorem iU.mono{M M' N':Nat}{t:Nat}(h:iU M N w w' rb a cap bs p t e)(b:M<=M')(n:N<=N'):iU M' N' w w' rb a cap bs p t e:=by
 obtain⟨v,L,c,d,f,i,q,j,k⟩:=h;exact⟨v,L,c,d,f,i,E5,λl m=>(j l m).mono b,k⟩
theorem jb.made{M:Nat}{w1:NI}{e f:Nat}(i:Rd A0 rb a cap bs e)(j:Rd w1 rb a cap bs f)(h:Xj rb (rb+1) A0 w1)(k:bL w1 v L)(l:∀d∈L,d.TinyN M)(m:lm A0.heap.size v L):
  jb M A0 (w1.alloc (.cells #[v] 25)) rb w1.heap.size a cap bs f v L:=
 have b:K_ w1 (w1.alloc (.cells #[v] 25)):=ah _ _
 ⟨j.kept b,⟨e,i⟩,h.size,h.fQ b,aD.made w1 _ _,X_ w1 _ _ 0 _ rfl,k.kept b,l,m⟩
theorem I_ :pM 53 1200 30 200 500000:=by
 intro w e a f h q b X r;have s:K_ w (w.alloc (.cells #[M0] 25)):=ah _ _;have A:Hid (Rd (w.alloc (.cells #[M0] 25)) e a f h q):=b.kept s;have B:Hid (aD (w.alloc (.cells #[M0] 25)) w.heap.size 25 1):=aD.made w _ _;have Y:=b.row.lt;have C:=Kz b;clear b;go_enter func53,ntmps53
 go_wp2_with fail
 refine (GL (Kz Im) (Kz Hy) _ e a f h q A.o E5 r).mono ?_;rintro D O ⟨P,L,E,rfl,Z,a0,hl,F,t,G,v,Q⟩;obtain⟨j,k,rfl,_,_⟩:=t.slice;have x:=Kz (jb.made A.o G v t F Q);have H:=Kz ((B.o.but v E5).kept ((K_.refl O).alloc (.cells #[.slice j L.length k] 25)));clear F t G v;go_wp2_with fail
 refine (aM _ e a f h E _ 24 rfl x.o.rd E5 E5 r).mono ?_;rintro D R ⟨y,rfl,a1,I,z⟩;have c:=Kz (x.o.drawn I z);have d:=Kz (H.o.but z E5);clear I z x H B;have y2:=c.o.c0;have z2:=c.o.row.lt;by_cases l:y=0
 .have S:((y:Int) == 0)=true:=by simp[l]
  clear l;go_wp2_with fail
  refine (DD 20 E5 _ e a f h (E+1) j k L c.o.rd E5 r E5 c.o.tiny c.o.web).mono ?_;intro D T J;obtain⟨P,rfl,p,⟨K,un,M,rfl⟩,N⟩:=(J.mono (M':=30) (N':=200) E5 E5).via (p:=q) (t':=1200) c.o.kb s E5 E5 C.o (Me _) d.o E5;have⟨U,V⟩:=aH N p;have z3:=p.lt;obtain⟨⟨_,u0⟩,W⟩:=p.row.at (i:=0) E5;clear N J p;go_wp2
  have b:=Mi T w.heap.size 0 [.slice K un M] (V.o.row.there (o:=0) (m:=1) (Me _));exact Zx [.slice K un M] _ results53 rfl b underlying25 rfl Tryz.gV rfl U.o
 .have S:((y:Int) == 0)=false:=by simpa using l
  clear l;obtain⟨⟨_,u0⟩,W⟩:=d.o.row.at (i:=0) E5;have zr:=d.o.lt;go_wp2
  have b:=Mi R w.heap.size 0 [.slice j L.length k] (d.o.row.there (o:=0) (m:=1) (Me _));exact Zx [.slice j L.length k] _ results53 rfl b underlying25 rfl Tryz.gV rfl ((c.o.mono (n:=30) E5).ends d.o (Me _) s C.o rfl E5 E5 E5)
section
variable {W wr w' : NI} {rb ob : Nat} {a : NH} {cap : Nat} {bs : List UInt8} {p p' : Nat} {cost : Int} {v : NJ} {L : List Xq} {u : NJ} {l : List Xz}
end
section
variable {W wr w' : NI} {rb ob : Nat} {a : NH} {cap : Nat} {bs : List UInt8} {p p' : Nat} {cost : Int} {v : NJ} {L : List Xq} {u : NJ} {l : List Xz}
end
theorem BytesAt.kept{w w':NI}{a:NH}{b:List UInt8}(h:BytesAt w a b)(k:K_ w w'):BytesAt w' a b:=λi d=>by
 obtain⟨f,o,e,c,j⟩:=h i d;exact⟨f,o,e,Mf c k.size,by rw[k.cell c];exact j⟩
theorem uH{P:Program}{e:Func}{R:Ending->NI->Prop}{a:Act}{w:NI}{p t:Tmp}{c:TypeId}{b:Nat}(cs:List NJ)(v:NJ)(d:TypeDesc)(h:e.results= #[.cell p c,.tmp t])
  (f:a.tmps.getD p undef= .c b) (i:w.rangeAt b 0 cs) (j:P.underlying c=some d) (k:d.isRow=true) (hi:(P.info? c).map (·.size)=some cs.length)
  (l:a.tmps.getD t undef=v) (m:a.defers=[]) (n:R (.returned (.tuple #[.agg cs.toArray,v])) w):bodyPost P e R .ret a w:=by
 refine bodyPost_ret ?_ m n;have q:a.tmps[p]?.getD undef= .c b:=by simpa using f
 have r:a.tmps[t]?.getD undef=v:=by simpa using l
 simp only[results,h];simp[q,r,asAddr,run_loadVar_mid w b 0 c cs d i j k hi]
theorem sQ{P:Program}{e:Func}{R:Ending->NI->Prop}{a:Act}{w:NI}{p t s:Tmp}{c:TypeId}{b:Nat}(cs:List NJ)(v u:NJ)(d:TypeDesc)(h:e.results= #[.cell p c,.tmp t,.tmp s])
  (f:a.tmps.getD p undef= .c b) (i:w.rangeAt b 0 cs) (j:P.underlying c=some d) (k:d.isRow=true) (hi:(P.info? c).map (·.size)=some cs.length)
  (l:a.tmps.getD t undef=v) (m:a.tmps.getD s undef=u) (n:a.defers=[]) (q:R (.returned (.tuple #[.agg cs.toArray,v,u])) w):bodyPost P e R .ret a w:=by
 refine bodyPost_ret ?_ n q;have r:a.tmps[p]?.getD undef= .c b:=by simpa using f
 have x:a.tmps[t]?.getD undef=v:=by simpa using l
 have y:a.tmps[s]?.getD undef=u:=by simpa using m
 simp only[results,h];simp[r,x,y,asAddr,run_loadVar_mid w b 0 c cs d i j k hi]
def KZ(w w':NI)(e:Ending):Prop:=
 ∃(na:NH) (nc:Nat) (L:List Qz) (g c:Nat) (Kj:List NG),e= .returned (.tuple #[.agg #[.slice na L.length nc],.b g Kj.length c])/\L.length<=200/\(∀d∈L,d.TinyN 30)/\bL w' (.slice na L.length nc) L/\Kj.length<=c/\Kj.length<=12/\(∀x∈Kj,x.size<=300)/\eU w' 9 (some ⟨g,0,none⟩) Kj/\K_ w w'
theorem xZ(w:NI)(a:NH)(n:Nat)(j:List UInt8)(J:BytesAt w a j)(M:j.length<=n)(N:j.length<=100000000):
  Calls prog 18 #[.slice a j.length n] w λe w'=>KZ w w' e:=by
 have v:K_ w (w.alloc (.cells #[M0] 25)):=ah _ _;have O:=Kz (aD.made w #[M0] 25);have P:=Kz (J.kept v);have Q:=Kz v;clear J v;go_enter func18,ntmps18
 go_wp2_with fail
 refine (Bg _ a n j P.o M N).mono ?_;rintro e Z ⟨i,rfl,a0,x,y⟩;obtain⟨z,A⟩:=aj (j.take 2000);have R:z.length<=2000:=by rw[A,MG];omega
 rw[<-A] at x;rw[MS] at a0;have a1:=Kz x;have a2:=Kz (Q.o.trans y);have S:=Kz (O.o.kept y)
 
 clear x y A P Q O M N;go_wp2_with fail
 refine (I_ Z i a n z 0 a1.o E5 R).mono ?_;rintro e k ⟨c1,L,p1,rfl,c2,c3,hl,B,C,D,E,a3⟩;obtain⟨b,c,rfl,_,_⟩:=C.slice;obtain⟨d,p⟩:=aj (k.alloc (.cells #[.slice b L.length c] 25));obtain⟨q,F⟩:=aj k.heap.size;have r:K_ k d:=by rw[p];exact ah _ _
 have a4:i<k.heap.size:=D.row.lt;have a5:d.heap.size=k.heap.size+1:=by rw[p];simp
 have G:Hid (∀u,Xj i (i+1) d u->u.cell? ⟨q,0,none⟩=some (.slice b L.length c)/\q<u.heap.size):=λu T=>by
  have hz:=T.size;refine⟨(Mt (w:=d) (a:=⟨q,0,none⟩) (T.block q E5 E5)).trans ?_,E5⟩;rw[p,F];exact X_ k _ _ 0 _ rfl
 have U:=Kz (D.kept r);have V:=Kz (C.kept r);have a6:=Kz ((E.kept a2.o E5).trans r);have a7:=Kz ((S.o.but E E5).kept r);have a8:Hid (∀H∈L,H.name.size<=300):=λH hd=>(B H hd).name
 have a9:=Kz B;have b0:q≠w.heap.size:=E5;go_upto_region 3 with fail
 rw[<-p,<-F];clear p F a5 r D C E a3 B S a4;refine gY 5 G.o (.ax (aV d)) (λf=>?_);have t:K_ d d.drew:=aV d;generalize b1:d.drew=wd at f t⊢;clear b1;refine ae 0 f ?_;refine ae 1 f ?_;refine ae 2 f ?_;refine aG 3 (λK h=>?_);go_simp
 go_at_call 54
 refine (FP wd i a n z p1 b c L (U.o.kept t) E5 R (V.o.kept t) E5 a8.o).mono ?_;rintro e l ⟨g,b2,Kj,p3,rfl,b3,b4,b5,W,_,_,b6,X⟩;have s:Xj i (i+1) d l:=(Xj.ax t).trans X;have b7:=Kz (V.o.same (s.sameKind U.o) E8 E8 E8 E8);have I:=Kz (a7.o.but s E5);have b8:=Kz (s.kept a6.o E5);have b9:=Kz W;clear W b6 X;dsimp only;refine af h (λ_=>G.o _ s) ?_;clear h K f;have f:=G.o _ s;refine aG 4 (λK h=>?_);refine wp_store_mid 25 _ _ rfl w.heap.size 0 #[.slice b L.length c] G5 G5 (I.o.row.there (o:=0) (m:=1) (Nat.le_refl _)) F4 J5 ?_;refine af h (λ_=>⟨by rw[World.setCells,World.setCells,Zj b0];exact f.1,by rw[World.setCells,World.setCells,size_setCell];exact f.2⟩) ?_;clear h K;refine ai 5 (λK h=>?_);go_simp
 refine af h (λc0=>Nv rfl c0) ?_;clear h K;refine aF ?_;go_wp2
 have hR:=Mi l w.heap.size 0 [.slice b L.length c] (I.o.row.there (o:=0) (m:=1) (Me _));have Y:aC 25 l (l.setCells w.heap.size 0 [.slice b L.length c]):=I.o.same _;have kf:K_ w (l.setCells w.heap.size 0 [.slice b L.length c]):=(Xj.sets (Me w.heap.size) (MJ _) [.slice b L.length c] 0 (Xj.refl _ _ l)).kept b8.o (Me _);exact uH [.slice b L.length c] _ _ results18 rfl hR underlying25 rfl Tryz.gV rfl rfl ⟨b,c,L,g,b2,Kj,rfl,hl,a9.o,b7.o.same Y E8 E8 E8 E8,b3,b4,b5,b9.o.same Y E8,kf⟩
theorem Tryz.Jy :(prog.info? 3).map (λi=>(i.zero,i.size,i.bytes))=some (some (.a 0),1,8):=F4
theorem KY(w:NI)(x:Int):∀j u,([.a x]:List NJ)[j]? =some u->(w.alloc (.cells #[.a x] 3)).cell? ((⟨w.heap.size,0,none⟩:Addr).add j)=some u:=λj u a=>by
 rw[MZ];exact X_ w #[.a x] 3 j u a
theorem Lc(x:Int):∀u∈([.a x]:List NJ),u.oneCell'=true:=λu a=>by simp at a;subst a;rfl
theorem yt{w:NI}{base:Nat}{t:TypeId}{a:NH}{n m c:Nat}{l:List Int}(h:w.ownsRow base t 1 (.slice a m c) n (l.map (Value.int .i64))):Ints w a l:=by
 have d:n=l.length:=by have:=h.1;simp at this;omega
 subst d;rcases h.2 with⟨_,j⟩|⟨g,k,p,e,q,f,_,_,_,_⟩
 .intro i b;omega
 .simp only[MW] at e;obtain⟨rfl,_,_⟩:=e;intro i b;have:=h.cells (g:=g) rfl i (.a (l.getD i 0)) (by simp[List.getD,b]);rw[MZ] at this;exact⟨g,0,rfl,aN f,this⟩
structure ISt (W wr:NI) (rb:Nat) (a:NH) (cap:Nat) (bs:List UInt8) (p:Nat) (v:NJ) (l:List Int):Prop where
 rd:Rd wr rb a cap bs p
 rd0:∃p0,Rd W rb a cap bs p0
 kb:Xj rb (rb+1) W wr
 own:wr.ownsRow W.heap.size 3 1 v l.length (l.map (Value.int .i64))
 sz:∀x∈l,In64 x
section
variable {W wr w' : NI} {rb : Nat} {a : NH} {cap : Nat} {bs : List UInt8} {p p' : Nat} {v : NJ} {l : List Int}
theorem ISt.drawn(h:ISt W wr rb a cap bs p v l)(c:Rd w' rb a cap bs p')(k:Xj rb (rb+1) wr w'):ISt W w' rb a cap bs p' v l:=
 ⟨c,h.rd0,h.kb.trans k,aQ h.own (k.sameKind h.rd) E8,h.sz⟩
theorem ISt.kept(h:ISt W wr rb a cap bs p v l)(k:K_ wr w'):ISt W w' rb a cap bs p v l:=h.drawn (h.rd.kept k) (.ax k)
theorem ISt.push{w1 w2:NI}{d:NJ}{x:Int}(h:ISt W wr rb a cap bs p v l)(f:K_ wr w1)(i:w2.ownsRow W.heap.size 3 1 d (l.length+1) (l.map (Value.int .i64)++ [.a x]))(j:w1.grownBy w2 v.ownBlock)(k:In64 x):ISt W w2 rb a cap bs p d (l++ [x]):=by
 have b:=h.kept f;have e:Below W.heap.size w1 w2:=(Below.refl _ _).grown j b.kb.size (λm n=>(b.own.lt m n).1);obtain⟨r,q⟩:=h.rd0;refine⟨b.rd.below q e b.kb.size,h.rd0,b.kb.below e,by simpa using i,λy c=>?_⟩;simp only[Mo,Mm] at c;rcases c with c | rfl
 .exact h.sz y c
 .exact k
end
def LW(w w':NI)(e:Ending):Prop:=
 ∃(na:NH) (nc:Nat) (L:List Qz) (g c:Nat) (Kj:List NG) (pa:NH) (pc:Nat) (picks:List Int),e= .returned (.tuple #[.agg #[.slice na L.length nc],.b g Kj.length c,.slice pa picks.length pc])/\L.length<=200/\(∀d∈L,d.TinyN 30)/\bL w' (.slice na L.length nc) L/\Kj.length<=c/\Kj.length<=12/\(∀x∈Kj,x.size<=300)/\eU w' 9 (some ⟨g,0,none⟩) Kj/\picks.length<=10/\(∀p∈picks,In64 p)/\Ints w' pa picks/\K_ w w'
theorem yg(w:NI)(a:NH)(d:Nat)(p:List UInt8)(X:BytesAt w a p)(F:p.length<=d)(G:p.length<=100000000):
  Calls prog 5 #[.slice a p.length d] w λe w'=>LW w w' e:=by
 have H:K_ w (w.alloc (.cells #[M0] 25)):=ah _ _;have Y:=Kz (aD.made w #[M0] 25);have I:=Kz (X.kept H);have Z:=Kz H;clear X H;go_enter func5,ntmps5
 go_wp2_with fail
 refine (Bg _ a d p I.o F G).mono ?_;rintro e b5 ⟨f,rfl,b6,J,h⟩;obtain⟨q,K⟩:=aj (p.take 2000);have y:q.length<=2000:=by rw[K,MG];omega
 rw[<-K] at J;rw[MS] at b6;have M:=Kz J;have a0:=Kz (Z.o.trans h);have a1:=Kz (Y.o.kept h)
 
 have a2:=Kz (I.o.kept h);clear J h K I Z Y;go_wp2_with fail
 refine (xZ b5 a d p a2.o F G).mono ?_;rintro e r ⟨j,k,L,g,b7,Kj,rfl,hl,a3,hG,b8,b9,c0,hT,N⟩;obtain⟨c,t⟩:=aj (r.alloc (.cells #[.slice j L.length k] 25));obtain⟨v,O⟩:=aj r.heap.size;have z:K_ r c:=by rw[t];exact ah _ _
 have A:=N.trans z;have c1:f<r.heap.size:=Mf M.o.row.lt N.size;have c2:c.heap.size=r.heap.size+1:=by rw[t];simp
 have HC:Hid (∀u,Xj f (f+1) c u->u.cell? ⟨v,0,none⟩=some (.slice j L.length k)/\v<u.heap.size):=λu ku=>by
  have hz:=ku.size;refine⟨(Mt (w:=c) (a:=⟨v,0,none⟩) (ku.block v E5 E5)).trans ?_,E5⟩;rw[t,O];exact X_ r _ _ 0 _ rfl
 have c3:=Kz (hG.kept z);have c4:=Kz (hT.same (u:=25) (aC.ax z) E8);have c5:=Kz (a0.o.trans A);have P:=Kz (M.o.kept A);have c6:=Kz (a1.o.kept A);have c7:=Kz a3;have b:Hid (ISt c (c.alloc (.cells #[] 3)) f a d q 0 (.b c.heap.size 0 0) []):=by
  have kk:K_ c (c.alloc (.cells #[] 3)):=ah _ _;exact⟨P.o.kept kk,⟨0,P.o⟩,.ax kk,ML c #[] 0 (Me _) (Mg _) rfl,λx hx=>by simp at hx⟩
 have d6:v≠w.heap.size:=E5;go_upto_region 3 with fail
 rw[<-t,<-O];clear t O c2 z N A hG hT a3 a1 a2 a0 M F G c1;go_wp2_with fail
 refine (aM _ f a d q 0 _ 9 rfl b.o.rd E5 E5 y).mono ?_;rintro e w2 ⟨n,rfl,hn,a4,a5⟩;have a6:=Kz (b.o.drawn a4 a5);clear a4 a5 b;go_wp2
 go_loopg [8,9] n (λB x8 x9 wr=>∃(p':Nat) (l:List Int),x9= .a (B:Int)/\B<=n/\p'+3*B<=1+3*n/\l.length+B<=n/\ISt c wr f a d q p' x8 l)
 case atStart=>exact⟨1,[],rfl,Me _,E5,E9,a6.o⟩
 case round=>
  clear a6;obtain⟨C,l,rfl,hg,d7,d8,hO⟩:=hrel;have b:=Kz hO;clear hO;obtain⟨av,cv,rfl⟩:=ay b.o.own;by_cases d9:(0:Int)<(gk:Int)
  .go_wp2_with fail
   refine (aM _ f a d q C _ 30 rfl b.o.rd E5 E5 y).mono ?_;rintro e w3 ⟨q1,rfl,e0,a7,a8⟩;have Q:=Kz (b.o.drawn a7 a8);clear a7 a8 b;go_wp2_with fail
   refine (aM _ f a d q (C+1) _ 30 rfl Q.o.rd E5 E5 y).mono ?_;rintro e R ⟨q2,rfl,e1,a9,b0⟩;have b1:=Kz (Q.o.drawn a9 b0);have K4:K_ R (R.alloc (.cells #[.a (q1:Int),.a (q2:Int),.a 1000003,.a (-1)] 3)):=ah _ _;have S:=Kz (b1.o.kept K4);clear a9 b0 Q K4;go_wp2_with fail
   refine (aM _ f a d q (C+2) _ 4 rfl S.o.rd E5 E5 y).mono ?_;rintro e s ⟨T,rfl,hq,b2,D⟩;have U:=Kz (S.o.drawn b2 D);obtain⟨x,b3,hx⟩:=JG [(q1:Int),(q2:Int),1000003, -1] D b1.o.rd.row.lt T (by show T<4;omega);have c8:In64 x:=by simp at b3;unfold In64;omega
   have lz:R.heap.size<s.heap.size:=Mf E9 D.size;have e2:(T:Int)<4:=E5;have h:K_ s (s.alloc (.cells #[.a x] 3)):=ah _ _;have c9:=Kz h;have d0:=Kz (U.o.kept h).own;have d1:c.heap.size<=(s.alloc (.cells #[.a x] 3)).heap.size:=(U.o.kept h).kb.size;obtain⟨ia,d2,d3,d4,d5⟩:=aP Tryz.Jy;clear b2 D S h b3;go_wp2_with (at_builtin;refine wpList_append_own _ rfl (.tmp 24) (.tmp 34) 27 rfl c.heap.size 3 ia _ 1 8 underlying27 d2 d3 d4 d5 rfl E8 (.slice av l.length cv) l.length (l.map (Value.int .i64)) rfl d0.o ⟨s.heap.size,0,none⟩ 1 1 [.a x] rfl rfl (KY s x) (Lc x) F5 E5 d1 ?_;intro v' w8 V b4 _;have HP:=Kz (U.o.push c9.o V b4 c8);obtain⟨e3,e4,rfl⟩:=ay V;clear V b4)
   go_roundg (gk-1)
   case measure=>omega
   case rel=>exact⟨C+3,l++ [x],F3,E5,E5,by rw[MU];simp;omega,HP.o⟩
  .obtain⟨e5,e6⟩:=HC.o _ b.o.kb;have E:=Kz (c6.o.but b.o.kb E5);obtain⟨⟨_,u0⟩,e7⟩:=E.o.row.at (i:=0) E8;have zr:=E.o.lt;go_wp2
   have hR:=Mi wr w.heap.size 0 [.slice j L.length k] (E.o.row.there (o:=0) (m:=1) (Me _));have W:aC 25 wr (wr.setCells w.heap.size 0 [.slice j L.length k]):=E.o.same _;have kf:K_ w (wr.setCells w.heap.size 0 [.slice j L.length k]):=(Xj.sets (Me w.heap.size) (MJ _) [.slice j L.length k] 0 (Xj.refl _ _ wr)).kept (b.o.kb.kept c5.o E5) (Me _);have hs:=b.o.kb.sameKind P.o;exact sQ [.slice j L.length k] _ _ _ results5 rfl hR underlying25 rfl Tryz.gV rfl rfl rfl ⟨j,k,L,g,b7,Kj,av,cv,l,rfl,hl,c7.o,(c3.o.same hs E8 E8 E8 E8).same W E8 E8 E8 E8,b8,b9,c0,(c4.o.same hs E8).same W E8,E5,b.o.sz,yt (aQ b.o.own W E8),kf⟩
