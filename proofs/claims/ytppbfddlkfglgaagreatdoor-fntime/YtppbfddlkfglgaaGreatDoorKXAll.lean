import Derived.Test.YtppbfddlkfglgaaGreatDoorKXAll0
import Derived.Test.YtppbfddlkfglgaaGreatDoorKBSort
set_option maxRecDepth 100000
set_option maxHeartbeats 25600000
namespace Go.Proofs.YtppbfddlkfglgaaGreatDoor
open Go.RowKit Go.Proofs.Tryz
theorem Tryz.lq :(prog.info? 59).map (·.size)=some 7:=C9
def AllEnd(Kq:List Qz)(Kj:List QV)(a:QW)(cap:Nat)(w w':QX)(e:Ending):Prop:=
 ∃(kb:Nat)(L:List Q_)(d:QW)(dc:Nat)(xs:List QY),e=.returned (.h kb)/\w.heap.size<=kb/\nU Kq Kj L false 0/\KnZ w w' w' kb (.slice d L.length dc) a Kq.length cap L d dc xs
structure wD (w wr:QX)(kb:Nat)(a:QW)(n cap:Nat)(L R nx:List Q_)(d:QW)(dc:Nat)(xs:List QY)(g nc:Nat)(ys:List QY):Prop where
 kn:KnZ w wr wr kb (.slice d R.length dc) a n cap R d dc xs
 own:wr.ownsRow w.heap.size 59 7 (.c g L.length nc) L.length ys
 pack:bY wr ys nx
 ne:(Value.slice d R.length dc).ownBlock≠some g
variable {L R nx:List Q_}
theorem wD.kept{w wr w':QX}{b n cap dc g c:Nat}{a d:QW}{e f:List QY}(h:wD w wr b a n cap L R nx d dc e g c f)(k:K_ wr w'):wD w w' b a n cap L R nx d dc e g c f:=
 ⟨(h.kn.kept k).again,ay h.own k,h.pack.kept k,h.ne⟩
variable {Kq:List Qz}
theorem Nh{i:Nat}{b:Bool}(h:mg Kq L R nx i b):nx.length=L.length/\L.length<=R.length:=by
 obtain⟨F,c,_⟩:=h.pre;exact⟨h.len,by rw[c,Qi];omega⟩
theorem Nn{i:Nat}{b:Bool}(h:mg Kq L R nx i b){j:Nat}(c:j<L.length):R.getD j Q_.zero=L.getD j Q_.zero:=by
 obtain⟨F,d,_⟩:=h.pre;rw[d];simp[List.getD,Qx c]
theorem IP(e:aX (Kk Kq)){i:Nat}{b:Bool}(h:mg Kq L R nx i b)(f:dR Kq (Qq L)):dR Kq (Qq R):=by
 obtain⟨F,j,k⟩:=h.pre;intro n r a;rw[j,lZ] at a;cases c:Qq L n with
 |some x=>rw[c] at a;cases a;exact f n _ c
 |none=>
  rw[c] at a;have d:=bA a;obtain⟨l,m⟩:=k r d.1;refine⟨d.2,?_⟩;rw[l];exact iD e m
theorem JQ(a:(R.map (·.name)).Nodup)(c:∀r∈R,(Kk Kq r.name).isSome=true):R.length<=Kq.length:=by
 have:=List.Nodup.length_le_of_subset a (λn a=>by
  obtain⟨r,d,rfl⟩:=PX.1 a;exact qM (c r d):∀n∈R.map (·.name),n∈Kq.map (·.name))
 simpa using this
theorem LF{i:Nat}{b:Bool}(h:mg Kq L R nx i b)(c:ClT (Kk Kq) (Qq L)):R.length<=Kq.length:=by
 refine JQ h.dif λr a=>?_;obtain⟨F,d,e⟩:=h.pre;rw[d] at a;rcases PK.1 a with g|g
 .exact c.web _ _ (gD h.nd.2 g)
 .exact (e r g).2
theorem LJ(a:aX (Kk Kq)){σ:Env}(b:dR Kq σ){n:QV}(c:(Kk Kq n).isSome=true){k:Nat}(d:∀j,j<k->bg (Kk Kq) σ (aK (Kk Kq) σ n j).1):(aK (Kk Kq) σ n k).2.length<=110:=by
 have e:=rW a b c d;have f:=Cz a b c d;omega
theorem uR{w:QX}{base n c:Nat}{d:QW}{a:List QY}(h:w.ownsRow base 59 7 (.slice d n c) n a)(b:0<n):∃g,d=some ⟨g,0,none⟩:=by
 rcases h.2 with⟨e,f⟩|⟨g,i,j,e,_⟩
 .omega
 .cases e;exact⟨g,rfl⟩
theorem JV(w:QX)(a:QW)(cap:Nat)(Kq:List Qz)(ra:QW)(rc:Nat)(Kj:List QV)(h9:Kq.length<=60)(k6:∀y∈Kq,y.Fits)(k7:uW Kq)(c5:aX (Kk Kq))(n6:Kj.length<=10)(hN:dS w a Kq)(hR:Strs w ra Kj):
  Calls prog 13 #[.agg #[.slice a Kq.length cap],.slice ra Kj.length rc] w λe w'=>AllEnd Kq Kj a cap w w' e:=by
 obtain⟨W1,d0⟩:=aj ((w.alloc (.cells #[.slice a Kq.length cap] 25)).alloc (.cells #[.slice a Kq.length cap,J6] 57));have k1:K_ w W1:=by rw[d0];exact (ai _ _).alloc _
 obtain⟨p,f2⟩:=aj (w.heap.size+1);have d1:w.heap.size<=p:=A7;have i0:Hid (jA W1 p a Kq.length cap none 0 0):=by
  have hr:aH W1 p 57 2:=by
   have h:=aH.made (w.alloc (.cells #[.slice a Kq.length cap] 25)) #[.slice a Kq.length cap,J6] 57;rw[Qh] at h;rw[d0,f2];exact h
  have h2:=O_ (w:=w.alloc (.cells #[.slice a Kq.length cap] 25)) (v0:=.slice a Kq.length cap) (v1:= J6) (t:=57) (w1:=W1) (by rw[d0];exact K_.refl _);rw[Qh,<-f2] at h2;exact⟨hr,h2.1,h2.2⟩
 have i1:Hid (KnZ w W1 W1 p (.slice none ([]:List Q_).length 0) a Kq.length cap [] none 0 []):=⟨k1,But.ak (K_.refl _),λ_ e=>(by cases e),i0.o,Qt _ _ _ _,bY.nil _,λ_=>⟨rfl,rfl⟩⟩;have a6:Hid (Kg W1 (λb=>b=p\/(Value.slice none ([]:List Q_).length 0).ownBlock=some b) ra Kj):=λi hi=>by
  obtain⟨b,o,ha,hb,hc⟩:=hR i hi;refine⟨b,o,ha,Px hb k1.size,?_,(k1.cell hb).trans hc⟩;rintro (e|e)
  .omega
  .cases e
 have k8:=(FM (w:=w) (v:=.slice a Kq.length cap) (t:=25) (w1:=w.alloc (.cells #[.slice a Kq.length cap] 25)) (K_.refl _)).1;go_enter func13,ntmps13
 go_upto_region 2 with fail
 rw[<-d0,<-f2];clear d0 f2 k8;go_wp2_with fail
 refine (qW w W1 p d1 a cap Kq ra rc Kj [] none 0 [] A7 A7 A9 i1.o hN a6.o).mono ?_;rintro e w1 ⟨rfl,k9,l0,l1,hZ⟩;have F:=Kz hZ.again;clear hZ i1 a6 i0 k1;go_wp2
 go_loopg [6] (dQ (Kq.map (·.name)) (Qq (dw (Kk Kq) [] Kj))+1) λgg x6 wr=>∃(ag:Bool)(L:List Q_)(b0:QW)(r:Nat)(s:List QY),x6=.bool ag/\Hid (nU Kq Kj L ag gg)/\Hid (KnZ w wr wr p (.slice b0 L.length r) a Kq.length cap L b0 r s)
 case atStart=>exact⟨true,dw (Kk Kq) [] Kj,k9,l0,l1,rfl,Kz (nU.start c5 Kj),F⟩
 case round=>
  clear F;obtain⟨ag,L,b0,r,s,rfl,P,F⟩:=hrel;have l2:=Pz P.o.len h9;cases ag
  .have l3:Hid (nU Kq Kj L false 0):=by
    have h:=P.o;have e:=h.gg;rw[QJ A9] at e;rw[e] at h;exact h
   go_wp2
   go_ret
   exact⟨p,L,b0,r,s,rfl,d1,l3.o,F.o⟩
  have T:=F.o.known.runs;have zk:=F.o.known.row.lt;by_cases i2:L.length=0
  .have l4:L=[]:=PQ.1 i2;subst l4;have hd:b0=none/\r=0:=F.o.nl rfl;obtain⟨rfl,rfl⟩:=hd;have f4:Hid (KnZ w (wr.alloc (.cells #[] 59)) (wr.alloc (.cells #[] 59)) p (.slice none ([]:List Q_).length 0) a Kq.length cap [] none 0 s):=(F.o.kept (ai _ _)).again;have a7:Hid (nU Kq Kj [] false 0):=⟨P.o.nd,P.o.good,P.o.led,λ_ n7 ⟨n8,hr,_⟩=>(by cases hr),rfl⟩;have l5:0<gk:=by have e:=P.o.gg;rw[QI rfl] at e;omega
   clear i2 l2;simp only[List.length_nil] at T;go_wp2
   go_loopw [6,9] (λx6 x9 wq=>x6=.bool false/\x9=.b 0/\wq=wr.alloc (.cells #[] 59)) λ_ _ _=>0
   case atStart=>exact⟨rfl,rfl,rfl⟩
   case round=>
    obtain⟨rfl,rfl,rfl⟩:=hrel;have l6:=f4.o.known.runs;have n9:=f4.o.known.row.lt;simp only[List.length_nil] at l6;go_wp2
    go_loopw [12] (λa9 wq=>a9=.b 0/\wq=wr.alloc (.cells #[] 59)) λ_ _=>0
    case atStart=>exact⟨rfl,rfl⟩
    case round=>
     obtain⟨rfl,rfl⟩:=hrel;go_wp2
     go_roundg 0
     case measure=>exact l5
     case rel=>exact⟨false,[],none,0,s,rfl,a7,f4⟩
  have i3:0<L.length:=A7;obtain⟨g0,rfl⟩:=uR F.o.own i3;obtain⟨eb,f3⟩:=aj wr.heap.size;obtain⟨WE,d2⟩:=aj (wr.alloc (.cells #[] 59));have kE:K_ wr WE:=by rw[d2];exact ai _ _
  have f5:Hid (WE.ownsRow w.heap.size 59 7 (.c eb 0 0) 0 []):=by
   rw[d2,f3];exact Qa wr #[] 0 F.o.kw.size (Py _) rfl
  have i4:WE.heap.size=wr.heap.size+1:=by rw[d2];simp
  have c6:=Kz (F.o.kept kE).again;have l7:=c6.o.known.runs;have l8:=c6.o.known.row.lt;have l9:g0<wr.heap.size:=(F.o.own.lt g0 rfl).2;have i5:s.length=L.length*7:=F.o.pack.1;have i6:Hid (∀j u,s[j]? =some u->WE.cell? ((⟨g0,0,none⟩:Addr).add j)=some u):=c6.o.own.cells rfl;have i7:Hid (∀u∈s,u.oneCell'=true):=F.o.pack.one;obtain⟨ic,m0,m1,m2,m3⟩:=bi Tryz.zC;have i8:w.heap.size<=WE.heap.size:=Pz F.o.kw.size kE.size;have m4:eb=wr.heap.size:=f3;have m5:g0<eb:=A7;have m6:p<wr.heap.size:=zk;go_upto_region 7 with fail
  go_wp2_with (at_builtin;rw[<-d2,<-f3];refine wpList_append_lies _ rfl (.tmp 25) (.tmp 29) 55 rfl w.heap.size 59 ic _ 7 80 underlying55 m0 m1 m2 m3 rfl A8 (.c eb 0 0) 0 [] rfl f5.o ⟨g0,0,none⟩ L.length r s rfl i5 i6.o i7.o i3 D6 A7 i8 (wr.heap.size+1) i4 ?_;intro c U w6 f6 i9 j0 m7;rw[Qb,List.nil_append] at f6;have f7:=Kz f6;have j1:=Kz i9;have j2:=Kz j0;clear f6 i9 j0)
  have m8:g0<c:=by
   rcases j2.o with e|e
   .simp only[Value.ownBlock,Ql] at e;omega
   .omega
  have f8:Hid (But (λb=>b=eb) WE w6):=But.aI j1.o (λb e=>by simp only[Value.ownBlock,Ql] at e;exact e.symm);have j3:Hid (wD w w6 p a Kq.length cap L L L (some ⟨g0,0,none⟩) r s c U s):=by
   have j4:∀b,b=eb->¬bu WE b 9:=λb e=>by rw[e];exact dN f5.o eb rfl
   have m9:=c6.o.but f8.o (λb e=>by rw[e];have:=F.o.kw.size;omega) (λ(e:p=eb)=>A7) (λb e=>by simp only[Value.ownBlock,Ql] at e;omega) j4;exact⟨m9,f7.o,c6.o.pack.but f8.o j4,λe=>by simp only[Value.ownBlock,Ql] at e;omega⟩
  have j5:Hid (mg Kq L L L 0 false):=mg.start P.o.nd;have f9:=Kz P.o.cl;have g1:w.heap.size<=c:=(f7.o.lt c rfl).1;clear T m4 m5 m6 f3 d2 i4 kE f5 c6 l7 l8 i6 i7 f7 j1 j2 f8 i5 zk l9 i8 m7 m8;go_wp2
  go_loopw [6,9] (λx6 x9 wr=>∃(i:Nat)(b:Bool)(R nx:List Q_)(b0:QW)(r:Nat)(s I:List QY),i<=L.length/\x9=.b (i:Int)/\x6=.bool b/\Hid (mg Kq L R nx i b)/\Hid (wD w wr p a Kq.length cap L R nx b0 r s c U I)) λ_ x9 _=>L.length-(intOf x9).toNat
  case atStart=>exact⟨0,false,L,L,some ⟨g0,0,none⟩,r,s,s,Py _,rfl,rfl,j5,j3⟩
  case round=>
   clear j3 j5 F;obtain⟨i,b,R,nx,b0,r,s,I,hi,rfl,rfl,a6,n⟩:=hrel;obtain⟨V,o0⟩:=Nh a6.o;have o1:=Pz (LF a6.o f9.o) h9;obtain⟨g,rfl⟩:=uR n.o.kn.own A7;have T:=n.o.kn.known.runs;have zk:=n.o.kn.known.row.lt;have Y:g<wr.heap.size:=(n.o.kn.own.lt g rfl).2;by_cases E:i<L.length
   .have j6:(i:Int)<(L.length:Int):=A7;have n0:i<R.length:=A7;have o2:(i:Int)<(R.length:Int):=A7;obtain⟨B,C,A,_,_,_⟩:=n.o.kn.pack.at n.o.kn.own n0;obtain⟨q,W⟩:=aj (L.getD i Q_.zero);rw[Nn a6.o E,<-W] at A;have t0:=A 0 _ rfl;have t1:=A 1 _ rfl;have t5:=A 5 _ rfl;rw[Qp] at t0;have g2:=Kz (IP c5 a6.o P.o.good);have j7:Hid ((Kk Kq q.name).isSome=true):=f9.o.web _ _ (gD P.o.nd (by rw[W];exact ll E));have HQ:=Kz W;clear A W;go_wp2_with fail
    refine (JB wr p a cap Kq (some ⟨g,0,none⟩) r R q.name A7 A7 k7 c5 k6 g2.o j7.o n.o.kn.known (hN.kept n.o.kn.kw) n.o.kn.runs).mono ?_;rintro e w3 ⟨⟨kk,xa,xc,qa,qc,rfl,g3,j8,⟨g4,j9,g5⟩,_⟩,k3⟩;obtain⟨m,d3⟩:=aj ((aK (Kk Kq) (Qq R) q.name kk).1);obtain⟨Q,d4⟩:=aj ((aK (Kk Kq) (Qq R) q.name kk).2);have c7:Hid (∀Z:Bool,Z= (b || decide (m.Zq≠q.Zq) || decide (m.over≠q.over))->mg Kq L (dw (Kk Kq) R Q) (nx.set i m) (i+1) Z):=λZ a8=>by
     rw[d3,d4];rw[d3] at a8;exact a6.o.next f9.o E (by rw[HQ.o]) g3 j8 (by rw[<-HQ.o];exact a8)
    have g6:Hid (Q.length<=110):=by show Q.length<=110;rw[d4];exact LJ c5 g2.o j7.o g3
    rw[<-d3,<-d4];rw[<-d3] at g4;rw[<-d4] at g5;obtain⟨X,d5⟩:=aj (w3.alloc (.cells #[.string m.name,.bool m.over,.bool m.fail,.string m.text,.b m.at',.b m.Zq,.slice xa m.texts.length xc] 59));have k4:K_ w3 X:=by rw[d5];exact ai _ _
    obtain⟨pb,d6⟩:=aj w3.heap.size;have b1:Hid (X.rangeAt pb 0 (m.cells xa xc)):=by
     have h:=X_ w3 #[.string m.name,.bool m.over,.bool m.fail,.string m.text,.b m.at',.b m.Zq,.slice xa m.texts.length xc] 59;rw[<-d5,<-d6] at h;exact λj u hu=>h j u hu
    have g7:pb<X.heap.size:=by rw[d5,d6];simp
    have o3:wr.heap.size<=pb:=by rw[d6];exact k3.size
    have K4:=k3.trans k4;have b2:=Kz (n.o.kept K4);have c8:=Kz (g4.but (But.ak (S:=λ_=>False) k4) λ_ e=>e.elim);have c9:=Kz (g5.but (But.ak (S:=λ_=>False) k4) λ_ e=>e.elim);have g8:=Kz j9;have p1:X.cell? ⟨pb,1,none⟩=some (.bool m.over):=by have:=b1.o 1 _ rfl;rw[Qb] at this;exact this
    have p5:X.cell? ⟨pb,5,none⟩=some (.b m.Zq):=by have:=b1.o 5 _ rfl;rw[Qb] at this;exact this
    have g9:=b2.o.kn.known.runs;have o4:=b2.o.kn.known.row.lt;have o5:g<X.heap.size:=Px Y K4.size;have s1:=(K4.cell Y).trans t1;have s5:=(K4.cell Y).trans t5;simp only[Q_.cells];clear g4 g5 j9 g3 j8 d3 d4 t0 t1 t5 T n g2;go_upto_region 12 with fail
    rw[<-d5,<-d6];clear d5 d6 k3 k4 K4;cases b
    .by_cases hv:m.Zq=q.Zq
     .have n1:(m.Zq != q.Zq)=false:=by simp[hv]
      have d8:=Kz (c7.o (!m.over == q.over) (by rw[hv];cases m.over<;>cases q.over<;>simp));clear hv c7;go_region
      obtain⟨k,a0⟩:=aj X.drew;rw[<-a0];have x:K_ X k:=by rw[a0];exact (a_ _)
      have d:=Kz (b2.o.kept x);obtain⟨f,D⟩:=aj (m.cells xa xc);have d9:=Kz D;have b3:Hid (k.rangeAt pb 0 f):=λj u hu=>by rw[D] at hu;exact (x.cell g7).trans (b1.o j u hu)
      have b4:Hid ((prog.info? 59).map (·.size)=some f.length):=by rw[D];exact Tryz.lq
      have b5:Hid ((prog.info? 59).map (·.size)=some f.toArray.size):=by rw[D];exact Tryz.lq
      have N:Hid (k.there c (i*7) f.toArray.size):=by
       obtain⟨_,_,_,_,_,h⟩:=d.o.pack.at d.o.own (i:=i) (by rw[V];exact E);rw[D];exact h
      have a7:Hid (f.toArray.all (·.oneCell')=true):=by rw[D];exact all_oneCell_toArray (Q_.one m xa xc)
      have e0:c<k.heap.size:=(d.o.own.lt c rfl).2;clear D a0;go_upto_region 14 with (first|(refine wpList_load_mid rfl 59 (.tmp 10) rfl pb 0 rfl f _ b3.o underlying59 rfl b4.o ?_)|(refine wpList_store_mid rfl 59 (.tmp 79) (.tmp 78) rfl c (i*7) f.toArray rfl rfl N.o b5.o a7.o ?_;rw[List.toList_toArray]))
      obtain⟨z,G⟩:=aj (k.setCells c (i*7) f);rw[<-G];have a1:But (λb=>b=c) k z:=by rw[G];exact jd f (i*7) k
      have a2:∀b,b=c->¬bu k b 9:=λb e=>by rw[e];exact dN d.o.own c rfl
      have O:Hid (KnZ w z z p (.c g R.length r) a Kq.length cap R (some ⟨g,0,none⟩) r s):=by rw[G];exact d.o.kn.other d.o.own g1 d.o.ne (i*7) f
      have a3:Hid (z.ownsRow w.heap.size 59 7 (.c c L.length U) L.length (ovr I (i*7) f)):=by rw[G];exact qE f (i*7) d.o.own
      have b6:Hid (bY z (ovr I (i*7) f) (nx.set i m)):=by
       rw[d9.o];refine (d.o.pack.set (by rw[V];exact E) (c8.o.but (But.ak (S:=λ_=>False) x) λ_ e=>e.elim) g8.o).but a1 a2
      have b7:Hid (eY z 9 qa Q):=(c9.o.but (But.ak (S:=λ_=>False) x) λ_ e=>e.elim).but a1 a2;have k0:c<z.heap.size:=(a3.o.lt c rfl).2;have a4:Hid (∀b,(b=p\/(Value.slice (some ⟨g,0,none⟩) R.length r).ownBlock=some b)->¬bu z b 9):=λb e=>by
       rcases e with e|e
       .rw[e];exact λht=>aN O.o.known.row.type ht A8 rfl
       .exact dN O.o.own b e
      have b8:=Kz d.o.ne;have e1:Hid (p≠c):=EK d.o.kn.known d.o.own;clear G a1 a2 d b2 b3 b4 b5 N a7 c8 c9 b1 e0 x p1 p5 g9 s1 s5;go_wp2_with fail
      refine (qW w z p d1 a cap Kq qa qc Q R (some ⟨g,0,none⟩) r s A7 g6.o A7 O.o hN (b7.o.nst a4.o)).mono ?_;rintro e w7 ⟨rfl,d7,b9,c0,H⟩;have e2:Hid (wD w w7 p a Kq.length cap L (dw (Kk Kq) R Q) (nx.set i m) d7 b9 c0 c U (ovr I (i*7) f)):=by
       refine⟨H.again,H.fr.owns a3.o λb e=>?_,b6.o.but H.fr a4.o,λe=>?_⟩
       .simp only[Value.ownBlock,Ql] at e;subst e;rintro (h|h)
        .exact e1.o h.symm
        .exact b8.o h
       .rcases H.nw c e with h|h
        .exact b8.o h
        .omega
      clear H O a3 b6 b7 a4;go_wp2
      go_roundw
      case rel=>exact⟨i+1,_,dw (Kk Kq) R Q,nx.set i m,d7,b9,c0,_,A7,C8,rfl,d8,e2⟩
      case measure=>simp[intOf];omega
     .have n1:(m.Zq != q.Zq)=true:=by simp[hv]
      have d8:=Kz (c7.o true (by simp[hv]));clear hv c7;go_region
      obtain⟨k,a0⟩:=aj X.drew;rw[<-a0];have x:K_ X k:=by rw[a0];exact (a_ _)
      have d:=Kz (b2.o.kept x);obtain⟨f,D⟩:=aj (m.cells xa xc);have d9:=Kz D;have b3:Hid (k.rangeAt pb 0 f):=λj u hu=>by rw[D] at hu;exact (x.cell g7).trans (b1.o j u hu)
      have b4:Hid ((prog.info? 59).map (·.size)=some f.length):=by rw[D];exact Tryz.lq
      have b5:Hid ((prog.info? 59).map (·.size)=some f.toArray.size):=by rw[D];exact Tryz.lq
      have N:Hid (k.there c (i*7) f.toArray.size):=by
       obtain⟨_,_,_,_,_,h⟩:=d.o.pack.at d.o.own (i:=i) (by rw[V];exact E);rw[D];exact h
      have a7:Hid (f.toArray.all (·.oneCell')=true):=by rw[D];exact all_oneCell_toArray (Q_.one m xa xc)
      have e0:c<k.heap.size:=(d.o.own.lt c rfl).2;clear D a0;go_upto_region 14 with (first|(refine wpList_load_mid rfl 59 (.tmp 10) rfl pb 0 rfl f _ b3.o underlying59 rfl b4.o ?_)|(refine wpList_store_mid rfl 59 (.tmp 79) (.tmp 78) rfl c (i*7) f.toArray rfl rfl N.o b5.o a7.o ?_;rw[List.toList_toArray]))
      obtain⟨z,G⟩:=aj (k.setCells c (i*7) f);rw[<-G];have a1:But (λb=>b=c) k z:=by rw[G];exact jd f (i*7) k
      have a2:∀b,b=c->¬bu k b 9:=λb e=>by rw[e];exact dN d.o.own c rfl
      have O:Hid (KnZ w z z p (.c g R.length r) a Kq.length cap R (some ⟨g,0,none⟩) r s):=by rw[G];exact d.o.kn.other d.o.own g1 d.o.ne (i*7) f
      have a3:Hid (z.ownsRow w.heap.size 59 7 (.c c L.length U) L.length (ovr I (i*7) f)):=by rw[G];exact qE f (i*7) d.o.own
      have b6:Hid (bY z (ovr I (i*7) f) (nx.set i m)):=by
       rw[d9.o];refine (d.o.pack.set (by rw[V];exact E) (c8.o.but (But.ak (S:=λ_=>False) x) λ_ e=>e.elim) g8.o).but a1 a2
      have b7:Hid (eY z 9 qa Q):=(c9.o.but (But.ak (S:=λ_=>False) x) λ_ e=>e.elim).but a1 a2;have k0:c<z.heap.size:=(a3.o.lt c rfl).2;have a4:Hid (∀b,(b=p\/(Value.slice (some ⟨g,0,none⟩) R.length r).ownBlock=some b)->¬bu z b 9):=λb e=>by
       rcases e with e|e
       .rw[e];exact λht=>aN O.o.known.row.type ht A8 rfl
       .exact dN O.o.own b e
      have b8:=Kz d.o.ne;have e1:Hid (p≠c):=EK d.o.kn.known d.o.own;clear G a1 a2 d b2 b3 b4 b5 N a7 c8 c9 b1 e0 x p1 p5 g9 s1 s5;go_wp2_with fail
      refine (qW w z p d1 a cap Kq qa qc Q R (some ⟨g,0,none⟩) r s A7 g6.o A7 O.o hN (b7.o.nst a4.o)).mono ?_;rintro e w7 ⟨rfl,d7,b9,c0,H⟩;have e2:Hid (wD w w7 p a Kq.length cap L (dw (Kk Kq) R Q) (nx.set i m) d7 b9 c0 c U (ovr I (i*7) f)):=by
       refine⟨H.again,H.fr.owns a3.o λb e=>?_,b6.o.but H.fr a4.o,λe=>?_⟩
       .simp only[Value.ownBlock,Ql] at e;subst e;rintro (h|h)
        .exact e1.o h.symm
        .exact b8.o h
       .rcases H.nw c e with h|h
        .exact b8.o h
        .omega
      clear H O a3 b6 b7 a4;go_wp2
      go_roundw
      case rel=>exact⟨i+1,_,dw (Kk Kq) R Q,nx.set i m,d7,b9,c0,_,A7,C8,rfl,d8,e2⟩
      case measure=>simp[intOf];omega
    .have d8:=Kz (c7.o true A9);clear c7;go_region
     obtain⟨k,a0⟩:=aj X.drew;rw[<-a0];have x:K_ X k:=by rw[a0];exact (a_ _)
     have d:=Kz (b2.o.kept x);obtain⟨f,D⟩:=aj (m.cells xa xc);have d9:=Kz D;have b3:Hid (k.rangeAt pb 0 f):=λj u hu=>by rw[D] at hu;exact (x.cell g7).trans (b1.o j u hu)
     have b4:Hid ((prog.info? 59).map (·.size)=some f.length):=by rw[D];exact Tryz.lq
     have b5:Hid ((prog.info? 59).map (·.size)=some f.toArray.size):=by rw[D];exact Tryz.lq
     have N:Hid (k.there c (i*7) f.toArray.size):=by
      obtain⟨_,_,_,_,_,h⟩:=d.o.pack.at d.o.own (i:=i) (by rw[V];exact E);rw[D];exact h
     have a7:Hid (f.toArray.all (·.oneCell')=true):=by rw[D];exact all_oneCell_toArray (Q_.one m xa xc)
     have e0:c<k.heap.size:=(d.o.own.lt c rfl).2;clear D a0;go_upto_region 14 with (first|(refine wpList_load_mid rfl 59 (.tmp 10) rfl pb 0 rfl f _ b3.o underlying59 rfl b4.o ?_)|(refine wpList_store_mid rfl 59 (.tmp 79) (.tmp 78) rfl c (i*7) f.toArray rfl rfl N.o b5.o a7.o ?_;rw[List.toList_toArray]))
     obtain⟨z,G⟩:=aj (k.setCells c (i*7) f);rw[<-G];have a1:But (λb=>b=c) k z:=by rw[G];exact jd f (i*7) k
     have a2:∀b,b=c->¬bu k b 9:=λb e=>by rw[e];exact dN d.o.own c rfl
     have O:Hid (KnZ w z z p (.c g R.length r) a Kq.length cap R (some ⟨g,0,none⟩) r s):=by rw[G];exact d.o.kn.other d.o.own g1 d.o.ne (i*7) f
     have a3:Hid (z.ownsRow w.heap.size 59 7 (.c c L.length U) L.length (ovr I (i*7) f)):=by rw[G];exact qE f (i*7) d.o.own
     have b6:Hid (bY z (ovr I (i*7) f) (nx.set i m)):=by
      rw[d9.o];refine (d.o.pack.set (by rw[V];exact E) (c8.o.but (But.ak (S:=λ_=>False) x) λ_ e=>e.elim) g8.o).but a1 a2
     have b7:Hid (eY z 9 qa Q):=(c9.o.but (But.ak (S:=λ_=>False) x) λ_ e=>e.elim).but a1 a2;have k0:c<z.heap.size:=(a3.o.lt c rfl).2;have a4:Hid (∀b,(b=p\/(Value.slice (some ⟨g,0,none⟩) R.length r).ownBlock=some b)->¬bu z b 9):=λb e=>by
      rcases e with e|e
      .rw[e];exact λht=>aN O.o.known.row.type ht A8 rfl
      .exact dN O.o.own b e
     have b8:=Kz d.o.ne;have e1:Hid (p≠c):=EK d.o.kn.known d.o.own;clear G a1 a2 d b2 b3 b4 b5 N a7 c8 c9 b1 e0 x p1 p5 g9 s1 s5;go_wp2_with fail
     refine (qW w z p d1 a cap Kq qa qc Q R (some ⟨g,0,none⟩) r s A7 g6.o A7 O.o hN (b7.o.nst a4.o)).mono ?_;rintro e w7 ⟨rfl,d7,b9,c0,H⟩;have e2:Hid (wD w w7 p a Kq.length cap L (dw (Kk Kq) R Q) (nx.set i m) d7 b9 c0 c U (ovr I (i*7) f)):=by
      refine⟨H.again,H.fr.owns a3.o λb e=>?_,b6.o.but H.fr a4.o,λe=>?_⟩
      .simp only[Value.ownBlock,Ql] at e;subst e;rintro (h|h)
       .exact e1.o h.symm
       .exact b8.o h
      .rcases H.nw c e with h|h
       .exact b8.o h
       .omega
     clear H O a3 b6 b7 a4;go_wp2
     go_roundw
     case rel=>exact⟨i+1,_,dw (Kk Kq) R Q,nx.set i m,d7,b9,c0,_,A7,C8,rfl,d8,e2⟩
     case measure=>simp[intOf];omega
   .have k2:¬((i:Int)<(L.length:Int)):=A7;have n2:i=L.length:=A7;subst n2;have k5:((R.length:Int) > (L.length:Int))↔L.length<R.length:=A7;clear E hi;cases b
    .have n3:=k5;obtain⟨Z,a8⟩:=aj ((false || decide (L.length<R.length)));have e3:=Kz (P.o.next c5 a6.o a8);have h0:Hid (Value.bool (decide (L.length<R.length))=Value.bool Z):=by show _=_;rw[a8];simp
     clear a8;go_wp2
     go_loopw [12] (λa9 wr=>∃(i:Nat)(M:List Q_)(s:List QY),i<=L.length/\a9=.b (i:Int)/\Hid (M=nx.take i++R.drop i)/\Hid (wD w wr p a Kq.length cap L M nx (some ⟨g,0,none⟩) r s c U I)) λa9 _=>L.length-(intOf a9).toNat
     case atStart=>exact⟨0,R,s,Py _,rfl,by simp[Hid],n⟩
     case round=>
      clear n T zk Y;obtain⟨i,M,s,hi,rfl,HM,n⟩:=hrel;have c1:M.length=R.length:=by rw[HM.o,Qi,PW,List.length_drop];omega
      have T:=n.o.kn.known.runs;have zk:=n.o.kn.known.row.lt;have Y:g<wr.heap.size:=(n.o.kn.own.lt g rfl).2;by_cases E:i<L.length
      .have j6:(i:Int)<(L.length:Int):=A7;have n4:(i:Int)<(M.length:Int):=A7;have e4:i<M.length:=A7;have h1:=Kz c1;clear c1;obtain⟨B,C,A,c2,e5,_⟩:=n.o.pack.at n.o.own (i:=i) (by rw[V];exact E);obtain⟨_,_,_,_,_,e6⟩:=n.o.kn.pack.at n.o.kn.own e4;obtain⟨q,W⟩:=aj (nx.getD i Q_.zero);rw[<-W] at A c2;have t0:=A 0 _ rfl;have t1:=A 1 _ rfl;have t2:=A 2 _ rfl;have t3:=A 3 _ rfl;have t4:=A 4 _ rfl;have t5:=A 5 _ rfl;have t6:=A 6 _ rfl;rw[Qp] at t0;have J:c<wr.heap.size:=(n.o.own.lt c rfl).2;have h3:Hid (M.set i q=nx.take (i+1)++R.drop (i+1)):=by
        show _=_;have e7:i<nx.length:=by rw[V];exact E
        have h4:(nx.take i).length=i:=F3;have c1:=h1.o;rw[HM.o,List.set_append_right _ _ A7,h4,Nat.sub_self,QG (l:=R) (i:=i) A7,List.set_cons_zero,PH e7,List.append_assoc,W];simp[List.getD,e7]
       have⟨h5,h6,N⟩:=dC c2 e5 e6;have h7:Hid (∀u,K_ wr u->u.cell? ⟨p,1,none⟩=some (.c g M.length r)/\u.cell? ⟨c,i*7,none⟩=some (.string q.name)/\u.cell? ⟨c,i*7+1,none⟩=some (.bool q.over)/\u.cell? ⟨c,i*7+2,none⟩=some (.bool q.fail)/\u.cell? ⟨c,i*7+3,none⟩=some (.string q.text)/\u.cell? ⟨c,i*7+4,none⟩=some (.b q.at')/\u.cell? ⟨c,i*7+5,none⟩=some (.b q.Zq)/\u.cell? ⟨c,i*7+6,none⟩=some (.slice B q.texts.length C)):=λu K=>⟨(K.cell zk).trans T,(K.cell J).trans t0,(K.cell J).trans t1,(K.cell J).trans t2,(K.cell J).trans t3,(K.cell J).trans t4,(K.cell J).trans t5,(K.cell J).trans t6⟩
       clear W A c2 e5 e6 t0 t1 t2 t3 t4 t5 t6;go_upto_region 19 with fail
       refine bG 10 h7.o λk x a5=>?_
       refine ax 0 a5 ?_;refine ax 4 a5 ?_;refine ae 8 a5 ?_;refine ae 9 a5 ?_;have d:=Kz (n.o.kept x);have e8:k.there g (i*7) 7:=λj hj=>⟨by rw[x.cell Y];exact (N.o j hj).1,(x.rules.2 g (i*7+j) Y).trans (N.o j hj).2⟩
       refine aD 10 λK hK=>?_;refine wp_store_mid 59 _ _ rfl g (i*7) #[.string q.name,.bool q.over,.bool q.fail,.string q.text,.b q.at',.b q.Zq,.slice B q.texts.length C] D8 D8 e8 C9 (all_oneCell_toArray (Q_.one q B C)) ?_;refine af hK (λh=>QK rfl h) ?_;clear hK K e8;refine aF ?_;have e9:Hid (KnZ w (k.setCells g (i*7) (q.cells B C)) (k.setCells g (i*7) (q.cells B C)) p (.c g (M.set i q).length r) a Kq.length cap (M.set i q) (some ⟨g,0,none⟩) r (ovr s (i*7) (q.cells B C))):=d.o.kn.over e4 (h5.o.but (But.ak (S:=λ_=>False) x) λ_ e=>e.elim) h6.o;have c3:=jd (q.cells B C) (i*7) k (g:=g);have f0:Hid (wD w (k.setCells g (i*7) (q.cells B C)) p a Kq.length cap L (M.set i q) nx (some ⟨g,0,none⟩) r (ovr s (i*7) (q.cells B C)) c U I):=by
        refine⟨e9.o,c3.owns d.o.own λb e (n5:b=g)=>?_,d.o.pack.but c3 (λb e=>by rw[e];exact dN d.o.kn.own g rfl),?_⟩
        .simp only[Value.ownBlock,Ql] at e;exact d.o.ne (by simp only[Value.ownBlock,Ql];omega)
        .have h:=d.o.ne;simpa[Value.ownBlock] using h
       obtain⟨W9,c4⟩:=aj (k.setCells g (i*7) (q.cells B C));have f1:k.setCells g (i*7) [.string q.name,.bool q.over,.bool q.fail,.string q.text,.b q.at',.b q.Zq,.slice B q.texts.length C]=W9:=c4.symm;rw[f1];rw[<-c4] at f0;clear c4 f1 e9 c3 d n x T a5;go_wp2
       go_roundw
       case rel=>exact⟨i+1,M.set i q,_,A7,C8,h3,f0⟩
       case measure=>simp[intOf];omega
      .have k2:¬((i:Int)<(L.length:Int)):=A7;have h8:Hid (M=nx++R.drop L.length):=by
        show _=_;rw[HM.o,show i=L.length by omega,<-V,Qc]
       clear E;go_wp2
       go_roundg (if Z=true then dQ (Kq.map (·.name)) (Qq (nx++R.drop L.length))+1 else 0)
       case measure=>exact e3.o.2
       case rel=>exact⟨Z,M,some ⟨g,0,none⟩,r,s,h0.o,by rw[h8.o];exact e3.o.1,n.o.kn⟩
    .have n3:=k5;obtain⟨Z,a8⟩:=aj ((true || decide (L.length<R.length)));have e3:=Kz (P.o.next c5 a6.o a8);have h0:Hid (Value.bool true=Value.bool Z):=by rw[a8];rfl
     clear a8;go_wp2
     go_loopw [12] (λa9 wr=>∃(i:Nat)(M:List Q_)(s:List QY),i<=L.length/\a9=.b (i:Int)/\Hid (M=nx.take i++R.drop i)/\Hid (wD w wr p a Kq.length cap L M nx (some ⟨g,0,none⟩) r s c U I)) λa9 _=>L.length-(intOf a9).toNat
     case atStart=>exact⟨0,R,s,Py _,rfl,by simp[Hid],n⟩
     case round=>
      clear n T zk Y;obtain⟨i,M,s,hi,rfl,HM,n⟩:=hrel;have c1:M.length=R.length:=by rw[HM.o,Qi,PW,List.length_drop];omega
      have T:=n.o.kn.known.runs;have zk:=n.o.kn.known.row.lt;have Y:g<wr.heap.size:=(n.o.kn.own.lt g rfl).2;by_cases E:i<L.length
      .have j6:(i:Int)<(L.length:Int):=A7;have n4:(i:Int)<(M.length:Int):=A7;have e4:i<M.length:=A7;have h1:=Kz c1;clear c1;obtain⟨B,C,A,c2,e5,_⟩:=n.o.pack.at n.o.own (i:=i) (by rw[V];exact E);obtain⟨_,_,_,_,_,e6⟩:=n.o.kn.pack.at n.o.kn.own e4;obtain⟨q,W⟩:=aj (nx.getD i Q_.zero);rw[<-W] at A c2;have t0:=A 0 _ rfl;have t1:=A 1 _ rfl;have t2:=A 2 _ rfl;have t3:=A 3 _ rfl;have t4:=A 4 _ rfl;have t5:=A 5 _ rfl;have t6:=A 6 _ rfl;rw[Qp] at t0;have J:c<wr.heap.size:=(n.o.own.lt c rfl).2;have h3:Hid (M.set i q=nx.take (i+1)++R.drop (i+1)):=by
        show _=_;have e7:i<nx.length:=by rw[V];exact E
        have h4:(nx.take i).length=i:=F3;have c1:=h1.o;rw[HM.o,List.set_append_right _ _ A7,h4,Nat.sub_self,QG (l:=R) (i:=i) A7,List.set_cons_zero,PH e7,List.append_assoc,W];simp[List.getD,e7]
       have⟨h5,h6,N⟩:=dC c2 e5 e6;have h7:Hid (∀u,K_ wr u->u.cell? ⟨p,1,none⟩=some (.c g M.length r)/\u.cell? ⟨c,i*7,none⟩=some (.string q.name)/\u.cell? ⟨c,i*7+1,none⟩=some (.bool q.over)/\u.cell? ⟨c,i*7+2,none⟩=some (.bool q.fail)/\u.cell? ⟨c,i*7+3,none⟩=some (.string q.text)/\u.cell? ⟨c,i*7+4,none⟩=some (.b q.at')/\u.cell? ⟨c,i*7+5,none⟩=some (.b q.Zq)/\u.cell? ⟨c,i*7+6,none⟩=some (.slice B q.texts.length C)):=λu K=>⟨(K.cell zk).trans T,(K.cell J).trans t0,(K.cell J).trans t1,(K.cell J).trans t2,(K.cell J).trans t3,(K.cell J).trans t4,(K.cell J).trans t5,(K.cell J).trans t6⟩
       clear W A c2 e5 e6 t0 t1 t2 t3 t4 t5 t6;go_upto_region 19 with fail
       refine bG 10 h7.o λk x a5=>?_
       refine ax 0 a5 ?_;refine ax 4 a5 ?_;refine ae 8 a5 ?_;refine ae 9 a5 ?_;have d:=Kz (n.o.kept x);have e8:k.there g (i*7) 7:=λj hj=>⟨by rw[x.cell Y];exact (N.o j hj).1,(x.rules.2 g (i*7+j) Y).trans (N.o j hj).2⟩
       refine aD 10 λK hK=>?_;refine wp_store_mid 59 _ _ rfl g (i*7) #[.string q.name,.bool q.over,.bool q.fail,.string q.text,.b q.at',.b q.Zq,.slice B q.texts.length C] D8 D8 e8 C9 (all_oneCell_toArray (Q_.one q B C)) ?_;refine af hK (λh=>QK rfl h) ?_;clear hK K e8;refine aF ?_;have e9:Hid (KnZ w (k.setCells g (i*7) (q.cells B C)) (k.setCells g (i*7) (q.cells B C)) p (.c g (M.set i q).length r) a Kq.length cap (M.set i q) (some ⟨g,0,none⟩) r (ovr s (i*7) (q.cells B C))):=d.o.kn.over e4 (h5.o.but (But.ak (S:=λ_=>False) x) λ_ e=>e.elim) h6.o;have c3:=jd (q.cells B C) (i*7) k (g:=g);have f0:Hid (wD w (k.setCells g (i*7) (q.cells B C)) p a Kq.length cap L (M.set i q) nx (some ⟨g,0,none⟩) r (ovr s (i*7) (q.cells B C)) c U I):=by
        refine⟨e9.o,c3.owns d.o.own λb e (n5:b=g)=>?_,d.o.pack.but c3 (λb e=>by rw[e];exact dN d.o.kn.own g rfl),?_⟩
        .simp only[Value.ownBlock,Ql] at e;exact d.o.ne (by simp only[Value.ownBlock,Ql];omega)
        .have h:=d.o.ne;simpa[Value.ownBlock] using h
       obtain⟨W9,c4⟩:=aj (k.setCells g (i*7) (q.cells B C));have f1:k.setCells g (i*7) [.string q.name,.bool q.over,.bool q.fail,.string q.text,.b q.at',.b q.Zq,.slice B q.texts.length C]=W9:=c4.symm;rw[f1];rw[<-c4] at f0;clear c4 f1 e9 c3 d n x T a5;go_wp2
       go_roundw
       case rel=>exact⟨i+1,M.set i q,_,A7,C8,h3,f0⟩
       case measure=>simp[intOf];omega
      .have k2:¬((i:Int)<(L.length:Int)):=A7;have h8:Hid (M=nx++R.drop L.length):=by
        show _=_;rw[HM.o,show i=L.length by omega,<-V,Qc]
       clear E;go_wp2
       go_roundg (if Z=true then dQ (Kq.map (·.name)) (Qq (nx++R.drop L.length))+1 else 0)
       case measure=>exact e3.o.2
       case rel=>exact⟨Z,M,some ⟨g,0,none⟩,r,s,h0.o,by rw[h8.o];exact e3.o.1,n.o.kn⟩
