import Derived.Test.YtjbipapbckajnaaGreatDoorKXAll0
import Derived.Test.YtjbipapbckajnaaGreatDoorKBAppr0
set_option maxRecDepth 100000
set_option maxHeartbeats 25600000
namespace Go.Proofs.YtjbipapbckajnaaGreatDoor
open Go.RowKit Go.Proofs.Tryz
theorem Tryz.jW :(prog.info? 40).map (·.size)=some 7:=F4
def AllEnd(Kq:List Qz)(Kj:List NG)(a:NH)(cap:Nat)(w w':NI)(e:Ending):Prop:=
 ∃(kb:Nat) (L:List Q_) (d:NH) (dc:Nat) (xs:List NJ),e= .returned (.c kb)/\w.heap.size<=kb/\mD Kq Kj L false 0/\KnZ w w' w' kb (.slice d L.length dc) a Kq.length cap L d dc xs
structure uK (w wr:NI) (kb:Nat) (a:NH) (n cap:Nat) (L R nx:List Q_) (d:NH) (dc:Nat) (xs:List NJ) (g nc:Nat) (ys:List NJ):Prop where
 kn:KnZ w wr wr kb (.slice d R.length dc) a n cap R d dc xs
 own:wr.ownsRow w.heap.size 40 7 (.b g L.length nc) L.length ys
 pack:bZ wr ys nx
 ne:(Value.slice d R.length dc).ownBlock≠some g
variable {L R nx : List Q_}
theorem uK.kept{w wr w':NI}{b n c e g f:Nat}{a d:NH}{i j:List NJ}(h:uK w wr b a n c L R nx d e i g f j)(k:K_ wr w'):uK w w' b a n c L R nx d e i g f j:=
 ⟨(h.kn.kept k).again,ak h.own k,h.pack.kept k,h.ne⟩
variable {Kq : List Qz}
theorem JD{i:Nat}{b:Bool}(h:lg Kq L R nx i b):nx.length=L.length/\L.length<=R.length:=by
 obtain⟨F,c,_⟩:=h.pre;exact⟨h.len,by rw[c,MU];omega⟩
theorem JV{i:Nat}{b:Bool}(h:lg Kq L R nx i b){j:Nat}(c:j<L.length):R.getD j Q_.zero=L.getD j Q_.zero:=by
 obtain⟨F,d,_⟩:=h.pre;rw[d];simp[List.getD,Ni c]
theorem F_(e:bg (Kk Kq)){i:Nat}{b:Bool}(h:lg Kq L R nx i b)(f:dm Kq (Qq L)):dm Kq (Qq R):=by
 obtain⟨F,j,k⟩:=h.pre;intro n r a;rw[j,kK] at a;cases c:Qq L n with
 | some x=>rw[c] at a;cases a;exact f n _ c
 | none=>
  rw[c] at a;have d:=aY a;obtain⟨l,m⟩:=k r d.1;refine⟨d.2, ?_⟩;rw[l];exact gL e m
theorem Gn(a:(R.map (·.name)).Nodup)(c:∀r∈R,(Kk Kq r.name).isSome=true):R.length<=Kq.length:=by
 have:=List.Nodup.length_le_of_subset a (λn a=>by
  obtain⟨r,d,rfl⟩:=MH.1 a;exact lK (c r d):∀n∈R.map (·.name),n∈Kq.map (·.name))
 simpa using this
theorem IC{i:Nat}{b:Bool}(h:lg Kq L R nx i b)(c:ClT (Kk Kq) (Qq L)):R.length<=Kq.length:=by
 refine Gn h.dif (λr a=>?_);obtain⟨F,d,e⟩:=h.pre;rw[d] at a;rcases Mo.1 a with g | g
 .exact c.web _ _ (gF h.nd.2 g)
 .exact (e r g).2
theorem Ji(a:bg (Kk Kq)){σ:Env}(b:dm Kq σ){n:NG}(c:(Kk Kq n).isSome=true){k:Nat}(d:∀j,j<k->aT (Kk Kq) σ (aJ (Kk Kq) σ n j).1):(aJ (Kk Kq) σ n k).2.length<=110:=by
 have e:=qM a b c d;have f:=AV a b c d;omega
theorem tL{w:NI}{base n c:Nat}{d:NH}{a:List NJ}(h:w.ownsRow base 40 7 (.slice d n c) n a)(b:0<n):∃g,d=some ⟨g,0,none⟩:=by
 rcases h.2 with⟨e,f⟩|⟨g,i,j,e,_⟩
 .omega
 .cases e;exact⟨g,rfl⟩
theorem GJ(w:NI)(a:NH)(x:Nat)(d:List Qz)(ra:NH)(rc:Nat)(Kj:List NG)(i1:d.length<=60)(k7:∀y∈d,y.Fits)(k8:jc d)(c6:bg (Kk d))(n7:Kj.length<=10)(hN:bT w a d)(hR:Strs w ra Kj):
  Calls prog 35 #[.agg #[.slice a d.length x],.slice ra Kj.length rc] w fun e w'=>AllEnd d Kj a x w w' e:=by
 obtain⟨W1,d1⟩:=aj ((w.alloc (.cells #[.slice a d.length x] 25)).alloc (.cells #[.slice a d.length x,.slice none 0 0] 86));have k1:K_ w W1:=by rw[d1];exact (ah _ _).alloc _
 obtain⟨p,f3⟩:=aj (w.heap.size+1);have d2:w.heap.size<=p:=by omega
 have i2:Hid (gQ W1 p a d.length x none 0 0):=by
  have hr:aD W1 p 86 2:=by
   have h:=aD.made (w.alloc (.cells #[.slice a d.length x] 25)) #[.slice a d.length x,.slice none 0 0] 86;rw[MS] at h;rw[d1,f3];exact h
  have h2:=Eh (w:=w.alloc (.cells #[.slice a d.length x] 25)) (v0:= .slice a d.length x) (v1:= .slice none 0 0) (t:=86) (w1:=W1) (by rw[d1];exact K_.refl _);rw[MS,<-f3] at h2;exact⟨hr,h2.1,h2.2⟩
 have i3:Hid (KnZ w W1 W1 p (.slice none ([]:List Q_).length 0) a d.length x [] none 0 []):=⟨k1,But.ax (K_.refl _),fun _ e=>(by cases e),i2.o,Nc _ _ _ _,bZ.nil _,fun _=>⟨rfl,rfl⟩⟩;have a7:Hid (Hq W1 (fun b=>b=p\/(Value.slice none ([]:List Q_).length 0).ownBlock=some b) ra Kj):=fun i hi=>by
  obtain⟨b,o,ha,hb,hc⟩:=hR i hi;refine⟨b,o,ha,Mf hb k1.size, ?_,(k1.cell hb).trans hc⟩;rintro (e|e)
  ·omega
  ·cases e
 have k9:=(Ce (w:=w) (v:= .slice a d.length x) (t:=25) (w1:=w.alloc (.cells #[.slice a d.length x] 25)) (K_.refl _)).1;go_enter func35,ntmps35
 go_upto_region 2 with fail
 rw[<-d1,<-f3];clear d1 f3 k9;go_wp2_with fail
 refine (pJ w W1 p d2 a x d ra rc Kj [] none 0 [] (by omega) (by omega) (by simp) i3.o hN a7.o).mono ?_;rintro e w1 ⟨rfl,l0,l1,l2,hZ⟩;have I:=Kz hZ.again;clear hZ i3 a7 i2 k1;go_wp2
 go_loopg [6] (b_ (d.map (·.name)) (Qq (bN (Kk d) [] Kj))+1) (fun gg x6 wr=>∃(ag:Bool) (L:List Q_) (b1:NH) (r:Nat) (s:List NJ),x6= .bool ag/\Hid (mD d Kj L ag gg)/\Hid (KnZ w wr wr p (.slice b1 L.length r) a d.length x L b1 r s))
 case atStart=>exact⟨true,bN (Kk d) [] Kj,l0,l1,l2,rfl,Kz (mD.start c6 Kj),I⟩
 case round=>
  clear I;obtain⟨ag,L,b1,r,s,rfl,V,I⟩:=hrel;have l3:=Mh V.o.len i1;cases ag
  ·have l4:Hid (mD d Kj L false 0):=by
    have h:=V.o;have e:=h.gg;rw[Nu (by simp)] at e;rw[e] at h;exact h
   go_wp2
   go_ret
   exact⟨p,L,b1,r,s,rfl,d2,l4.o,I.o⟩
  have W:=I.o.known.runs;have zk:=I.o.known.row.lt;by_cases i4:L.length=0
  ·have l5:L=[]:=Mw.1 i4;subst l5;have hd:b1=none/\r=0:=I.o.nl rfl;obtain⟨rfl,rfl⟩:=hd;have f5:Hid (KnZ w (wr.alloc (.cells #[] 40)) (wr.alloc (.cells #[] 40)) p (.slice none ([]:List Q_).length 0) a d.length x [] none 0 s):=(I.o.kept (ah _ _)).again;have a8:Hid (mD d Kj [] false 0):=⟨V.o.nd,V.o.good,V.o.led,fun _ n8 ⟨n9,hr,_⟩=>(by cases hr),rfl⟩;have l6:0<gk:=by have e:=V.o.gg;rw[Nt rfl] at e;omega
   clear i4 l3;simp only[List.length_nil] at W;go_wp2
   go_loopw [6,9] (fun x6 x9 wq=>x6= .bool false/\x9= .int .i64 0/\wq=wr.alloc (.cells #[] 40)) (fun _ _ _=>0)
   case atStart=>exact⟨rfl,rfl,rfl⟩
   case round=>
    obtain⟨rfl,rfl,rfl⟩:=hrel;have m2:=f5.o.known.runs;have o0:=f5.o.known.row.lt;simp only[List.length_nil] at m2;go_wp2
    go_loopw [12] (fun b0 wq=>b0= .int .i64 0/\wq=wr.alloc (.cells #[] 40)) (fun _ _=>0)
    case atStart=>exact⟨rfl,rfl⟩
    case round=>
     obtain⟨rfl,rfl⟩:=hrel;go_wp2
     go_roundg 0
     case measure=>exact l6
     case rel=>exact⟨false,[],none,0,s,rfl,a8,f5⟩
  have i5:0<L.length:=by omega
  obtain⟨g0,rfl⟩:=tL I.o.own i5;obtain⟨eb,f4⟩:=aj wr.heap.size;obtain⟨WE,d3⟩:=aj (wr.alloc (.cells #[] 40));have kE:K_ wr WE:=by rw[d3];exact ah _ _
  have f6:Hid (WE.ownsRow w.heap.size 40 7 (.slice (some ⟨eb,0,none⟩) 0 0) 0 []):=by
   rw[d3,f4];exact ML wr #[] 0 I.o.kw.size (Mg _) rfl
  have i6:WE.heap.size=wr.heap.size+1:=by rw[d3];simp
  have c7:=Kz (I.o.kept kE).again;have l7:=c7.o.known.runs;have l8:=c7.o.known.row.lt;have l9:g0<wr.heap.size:=(I.o.own.lt g0 rfl).2;have i7:s.length=L.length*7:=I.o.pack.1;have i8:Hid (∀G u,s[G]? =some u->WE.cell? ((⟨g0,0,none⟩:Addr).add G)=some u):=c7.o.own.cells rfl;have i9:Hid (∀u∈s,u.oneCell'=true):=I.o.pack.one;obtain⟨ic,m0,m1,m3,m4⟩:=aU Tryz.si;have j0:w.heap.size<=WE.heap.size:=Mh I.o.kw.size kE.size;have m5:eb=wr.heap.size:=f4;have m6:g0<eb:=by omega
  have m7:p<wr.heap.size:=zk;go_upto_region 7 with fail
  go_wp2_with (at_builtin;rw[<-d3,<-f4];refine wpList_append_lies _ rfl (.tmp 25) (.tmp 29) 30 rfl w.heap.size 40 ic _ 7 80 underlying30 m0 m1 m3 m4 rfl (by decide) (.slice (some ⟨eb,0,none⟩) 0 0) 0 [] rfl f6.o ⟨g0,0,none⟩ L.length r s rfl i7 i8.o i9.o i5 (by unfold maxLen;omega) (by omega) j0 (wr.heap.size+1) i6 ?_;intro c X w6 f7 j1 j2 m8;rw[MM,List.nil_append] at f7;have f8:=Kz f7;have j3:=Kz j1;have j4:=Kz j2;clear f7 j1 j2)
  have m9:g0<c:=by
   rcases j4.o with e|e
   ·simp only[Value.ownBlock,MV] at e;omega
   ·omega
  have f9:Hid (But (fun b=>b=eb) WE w6):=But.aI j3.o (fun b e=>by simp only[Value.ownBlock,MV] at e;exact e.symm);have j5:Hid (uK w w6 p a d.length x L L L (some ⟨g0,0,none⟩) r s c X s):=by
   have j6:∀b,b=eb->¬bn WE b 9:=fun b e=>by rw[e];exact dE f6.o eb rfl
   have n0:=c7.o.but f9.o (fun b e=>by rw[e];have:=I.o.kw.size;omega) (fun (e:p=eb)=>by omega) (fun b e=>by simp only[Value.ownBlock,MV] at e;omega) j6;exact⟨n0,f8.o,c7.o.pack.but f9.o j6,fun e=>by simp only[Value.ownBlock,MV] at e;omega⟩
  have j7:Hid (lg d L L L 0 false):=lg.start V.o.nd;have g1:=Kz V.o.cl;have g2:w.heap.size<=c:=(f8.o.lt c rfl).1;clear W m5 m6 m7 f4 d3 i6 kE f6 c7 l7 l8 i8 i9 f8 j3 j4 f9 i7 zk l9 j0 m8 m9;go_wp2
  go_loopw [6,9] (fun x6 x9 wr=>∃(i:Nat) (b:Bool) (R z:List Q_) (b1:NH) (r:Nat) (s O:List NJ),i<=L.length/\x9= .int .i64 (i:Int)/\x6= .bool b/\Hid (lg d L R z i b)/\Hid (uK w wr p a d.length x L R z b1 r s c X O)) (fun _ x9 _=>L.length-(intOf x9).toNat)
  case atStart=>exact⟨0,false,L,L,some ⟨g0,0,none⟩,r,s,s,Mg _,rfl,rfl,j7,j5⟩
  case round=>
   clear j5 j7 I;obtain⟨i,b,R,z,b1,r,s,O,hi,rfl,rfl,a7,n⟩:=hrel;obtain⟨Y,o1⟩:=JD a7.o;have o2:=Mh (IC a7.o g1.o) i1;obtain⟨g,rfl⟩:=tL n.o.kn.own (by omega);have W:=n.o.kn.known.runs;have zk:=n.o.kn.known.row.lt;have a0:g<wr.heap.size:=(n.o.kn.own.lt g rfl).2;by_cases H:i<L.length
   ·have j8:(i:Int)<(L.length:Int):=by omega
    have n1:i<R.length:=by omega
    have o3:(i:Int)<(R.length:Int):=by omega
    obtain⟨D,E,C,_,_,_⟩:=n.o.kn.pack.at n.o.kn.own n1;obtain⟨q,Z⟩:=aj (L.getD i Q_.zero);rw[JV a7.o H,<-Z] at C;have t0:=C 0 _ rfl;have t1:=C 1 _ rfl;have t5:=C 5 _ rfl;rw[M_] at t0;have g3:=Kz (F_ c6 a7.o V.o.good);have j9:Hid ((Kk d q.name).isSome=true):=g1.o.web _ _ (gF V.o.nd (by rw[Z];exact jQ H));have HQ:=Kz Z;clear C Z;go_wp2_with fail
    refine (GI wr p a x d (some ⟨g,0,none⟩) r R q.name (by omega) (by omega) k8 c6 k7 g3.o j9.o n.o.kn.known (hN.kept n.o.kn.kw) n.o.kn.runs).mono ?_;rintro e w3 ⟨⟨kk,xa,xc,qa,qc,rfl,g4,k0,⟨g5,k2,g6⟩,_⟩,g7⟩;obtain⟨m,d4⟩:=aj ((aJ (Kk d) (Qq R) q.name kk).1);obtain⟨Q,d5⟩:=aj ((aJ (Kk d) (Qq R) q.name kk).2);have c8:Hid (∀b':Bool,b'= (b || decide (m.Zq≠q.Zq) || decide (m.over≠q.over))->lg d L (bN (Kk d) R Q) (z.set i m) (i+1) b'):=fun b' a9=>by
     rw[d4,d5];rw[d4] at a9;exact a7.o.next g1.o H (by rw[HQ.o]) g4 k0 (by rw[<-HQ.o];exact a9)
    have g8:Hid (Q.length<=110):=by show Q.length<=110;rw[d5];exact Ji c6 g3.o j9.o g4
    rw[<-d4,<-d5];rw[<-d4] at g5;rw[<-d5] at g6;obtain⟨W4,d6⟩:=aj (w3.alloc (.cells #[.string m.name,.bool m.over,.bool m.fail,.string m.text,.int .i64 m.at',.int .i64 m.Zq,.slice xa m.texts.length xc] 40));have k4:K_ w3 W4:=by rw[d6];exact ah _ _
    obtain⟨pb,d8⟩:=aj w3.heap.size;have b2:Hid (W4.rangeAt pb 0 (m.cells xa xc)):=by
     have h:=X_ w3 #[.string m.name,.bool m.over,.bool m.fail,.string m.text,.int .i64 m.at',.int .i64 m.Zq,.slice xa m.texts.length xc] 40;rw[<-d6,<-d8] at h;exact fun G u hu=>h G u hu
    have g9:pb<W4.heap.size:=by rw[d6,d8];simp
    have o4:wr.heap.size<=pb:=by rw[d8];exact g7.size
    have K4:=g7.trans k4;have b3:=Kz (n.o.kept K4);have c9:=Kz (g5.but (But.ax (S:=fun _=>False) k4) (fun _ e=>e.elim));have d0:=Kz (g6.but (But.ax (S:=fun _=>False) k4) (fun _ e=>e.elim));have h0:=Kz k2;have p1:W4.cell? ⟨pb,1,none⟩=some (.bool m.over):=by have:=b2.o 1 _ rfl;rw[MM] at this;exact this
    have p5:W4.cell? ⟨pb,5,none⟩=some (.int .i64 m.Zq):=by have:=b2.o 5 _ rfl;rw[MM] at this;exact this
    have h1:=b3.o.kn.known.runs;have o5:=b3.o.kn.known.row.lt;have o6:g<W4.heap.size:=Mf a0 K4.size;have s1:=(K4.cell a0).trans t1;have s5:=(K4.cell a0).trans t5;simp only[Q_.cells];clear g5 g6 k2 g4 k0 d4 d5 t0 t1 t5 W n g3;go_upto_region 12 with fail
    rw[<-d6,<-d8];clear d6 d8 g7 k4 K4;cases b
    ·by_cases hv:m.Zq=q.Zq
     ·have n2:(m.Zq != q.Zq)=false:=by simp[hv]
      have d9:=Kz (c8.o (!m.over == q.over) (by rw[hv];cases m.over <;> cases q.over <;> simp));clear hv c8;go_region
      obtain⟨k,a1⟩:=aj W4.drew;rw[<-a1];have A:K_ W4 k:=by rw[a1];exact (aV _)
      have f:=Kz (b3.o.kept A);obtain⟨j,F⟩:=aj (m.cells xa xc);have e0:=Kz F;have b4:Hid (k.rangeAt pb 0 j):=fun G u hu=>by rw[F] at hu;exact (A.cell g9).trans (b2.o G u hu)
      have b5:Hid ((prog.info? 40).map (·.size)=some j.length):=by rw[F];exact Tryz.jW
      have b6:Hid ((prog.info? 40).map (·.size)=some j.toArray.size):=by rw[F];exact Tryz.jW
      have T:Hid (k.there c (i*7) j.toArray.size):=by
       obtain⟨_,_,_,_,_,h⟩:=f.o.pack.at f.o.own (i:=i) (by rw[Y];exact H);rw[F];exact h
      have a8:Hid (j.toArray.all (·.oneCell')=true):=by rw[F];exact all_oneCell_toArray (Q_.one m xa xc)
      have e1:c<k.heap.size:=(f.o.own.lt c rfl).2;clear F a1;go_upto_region 14 with (first | (refine wpList_load_mid rfl 40 (.tmp 10) rfl pb 0 rfl j _ b4.o underlying40 rfl b5.o ?_) | (refine wpList_store_mid rfl 40 (.tmp 79) (.tmp 78) rfl c (i*7) j.toArray rfl rfl T.o b6.o a8.o ?_;rw[List.toList_toArray]))
      obtain⟨B,J⟩:=aj (k.setCells c (i*7) j);rw[<-J];have a2:But (fun b=>b=c) k B:=by rw[J];exact iA j (i*7) k
      have a3:∀b,b=c->¬bn k b 9:=fun b e=>by rw[e];exact dE f.o.own c rfl
      have U:Hid (KnZ w B B p (.slice (some ⟨g,0,none⟩) R.length r) a d.length x R (some ⟨g,0,none⟩) r s):=by rw[J];exact f.o.kn.other f.o.own g2 f.o.ne (i*7) j
      have a4:Hid (B.ownsRow w.heap.size 40 7 (.slice (some ⟨c,0,none⟩) L.length X) L.length (ovr O (i*7) j)):=by rw[J];exact oq j (i*7) f.o.own
      have b7:Hid (bZ B (ovr O (i*7) j) (z.set i m)):=by
       rw[e0.o];refine (f.o.pack.set (by rw[Y];exact H) (c9.o.but (But.ax (S:=fun _=>False) A) (fun _ e=>e.elim)) h0.o).but a2 a3
      have b8:Hid (eU B 9 qa Q):=(d0.o.but (But.ax (S:=fun _=>False) A) (fun _ e=>e.elim)).but a2 a3;have k3:c<B.heap.size:=(a4.o.lt c rfl).2;have a5:Hid (∀b,(b=p\/(Value.slice (some ⟨g,0,none⟩) R.length r).ownBlock=some b)->¬bn B b 9):=fun b e=>by
       rcases e with e|e
       ·rw[e];exact fun ht=>aS U.o.known.row.type ht (by decide) rfl
       ·exact dE U.o.own b e
      have b9:=Kz f.o.ne;have e2:Hid (p≠c):=Cc f.o.kn.known f.o.own;clear J a2 a3 f b3 b4 b5 b6 T a8 c9 d0 b2 e1 A p1 p5 h1 s1 s5;go_wp2_with fail
      refine (pJ w B p d2 a x d qa qc Q R (some ⟨g,0,none⟩) r s (by omega) g8.o (by omega) U.o hN (b8.o.nst a5.o)).mono ?_;rintro e w7 ⟨rfl,d7,c0,c1,N⟩;have e3:Hid (uK w w7 p a d.length x L (bN (Kk d) R Q) (z.set i m) d7 c0 c1 c X (ovr O (i*7) j)):=by
       refine⟨N.again,N.fr.owns a4.o (fun b e=>?_),b7.o.but N.fr a5.o,fun e=>?_⟩
       ·simp only[Value.ownBlock,MV] at e;subst e;rintro (h|h)
        ·exact e2.o h.symm
        ·exact b9.o h
       ·rcases N.nw c e with h|h
        ·exact b9.o h
        ·omega
      clear N U a4 b7 b8 a5;go_wp2
      go_roundw
      case rel=>exact⟨i+1,_,bN (Kk d) R Q,z.set i m,d7,c0,c1,_,by omega,by go_num,rfl,d9,e3⟩
      case measure=>simp[intOf];omega
     ·have n2:(m.Zq != q.Zq)=true:=by simp[hv]
      have d9:=Kz (c8.o true (by simp[hv]));clear hv c8;go_region
      obtain⟨k,a1⟩:=aj W4.drew;rw[<-a1];have A:K_ W4 k:=by rw[a1];exact (aV _)
      have f:=Kz (b3.o.kept A);obtain⟨j,F⟩:=aj (m.cells xa xc);have e0:=Kz F;have b4:Hid (k.rangeAt pb 0 j):=fun G u hu=>by rw[F] at hu;exact (A.cell g9).trans (b2.o G u hu)
      have b5:Hid ((prog.info? 40).map (·.size)=some j.length):=by rw[F];exact Tryz.jW
      have b6:Hid ((prog.info? 40).map (·.size)=some j.toArray.size):=by rw[F];exact Tryz.jW
      have T:Hid (k.there c (i*7) j.toArray.size):=by
       obtain⟨_,_,_,_,_,h⟩:=f.o.pack.at f.o.own (i:=i) (by rw[Y];exact H);rw[F];exact h
      have a8:Hid (j.toArray.all (·.oneCell')=true):=by rw[F];exact all_oneCell_toArray (Q_.one m xa xc)
      have e1:c<k.heap.size:=(f.o.own.lt c rfl).2;clear F a1;go_upto_region 14 with (first | (refine wpList_load_mid rfl 40 (.tmp 10) rfl pb 0 rfl j _ b4.o underlying40 rfl b5.o ?_) | (refine wpList_store_mid rfl 40 (.tmp 79) (.tmp 78) rfl c (i*7) j.toArray rfl rfl T.o b6.o a8.o ?_;rw[List.toList_toArray]))
      obtain⟨B,J⟩:=aj (k.setCells c (i*7) j);rw[<-J];have a2:But (fun b=>b=c) k B:=by rw[J];exact iA j (i*7) k
      have a3:∀b,b=c->¬bn k b 9:=fun b e=>by rw[e];exact dE f.o.own c rfl
      have U:Hid (KnZ w B B p (.slice (some ⟨g,0,none⟩) R.length r) a d.length x R (some ⟨g,0,none⟩) r s):=by rw[J];exact f.o.kn.other f.o.own g2 f.o.ne (i*7) j
      have a4:Hid (B.ownsRow w.heap.size 40 7 (.slice (some ⟨c,0,none⟩) L.length X) L.length (ovr O (i*7) j)):=by rw[J];exact oq j (i*7) f.o.own
      have b7:Hid (bZ B (ovr O (i*7) j) (z.set i m)):=by
       rw[e0.o];refine (f.o.pack.set (by rw[Y];exact H) (c9.o.but (But.ax (S:=fun _=>False) A) (fun _ e=>e.elim)) h0.o).but a2 a3
      have b8:Hid (eU B 9 qa Q):=(d0.o.but (But.ax (S:=fun _=>False) A) (fun _ e=>e.elim)).but a2 a3;have k3:c<B.heap.size:=(a4.o.lt c rfl).2;have a5:Hid (∀b,(b=p\/(Value.slice (some ⟨g,0,none⟩) R.length r).ownBlock=some b)->¬bn B b 9):=fun b e=>by
       rcases e with e|e
       ·rw[e];exact fun ht=>aS U.o.known.row.type ht (by decide) rfl
       ·exact dE U.o.own b e
      have b9:=Kz f.o.ne;have e2:Hid (p≠c):=Cc f.o.kn.known f.o.own;clear J a2 a3 f b3 b4 b5 b6 T a8 c9 d0 b2 e1 A p1 p5 h1 s1 s5;go_wp2_with fail
      refine (pJ w B p d2 a x d qa qc Q R (some ⟨g,0,none⟩) r s (by omega) g8.o (by omega) U.o hN (b8.o.nst a5.o)).mono ?_;rintro e w7 ⟨rfl,d7,c0,c1,N⟩;have e3:Hid (uK w w7 p a d.length x L (bN (Kk d) R Q) (z.set i m) d7 c0 c1 c X (ovr O (i*7) j)):=by
       refine⟨N.again,N.fr.owns a4.o (fun b e=>?_),b7.o.but N.fr a5.o,fun e=>?_⟩
       ·simp only[Value.ownBlock,MV] at e;subst e;rintro (h|h)
        ·exact e2.o h.symm
        ·exact b9.o h
       ·rcases N.nw c e with h|h
        ·exact b9.o h
        ·omega
      clear N U a4 b7 b8 a5;go_wp2
      go_roundw
      case rel=>exact⟨i+1,_,bN (Kk d) R Q,z.set i m,d7,c0,c1,_,by omega,by go_num,rfl,d9,e3⟩
      case measure=>simp[intOf];omega
    ·have d9:=Kz (c8.o true (by simp));clear c8;go_region
     obtain⟨k,a1⟩:=aj W4.drew;rw[<-a1];have A:K_ W4 k:=by rw[a1];exact (aV _)
     have f:=Kz (b3.o.kept A);obtain⟨j,F⟩:=aj (m.cells xa xc);have e0:=Kz F;have b4:Hid (k.rangeAt pb 0 j):=fun G u hu=>by rw[F] at hu;exact (A.cell g9).trans (b2.o G u hu)
     have b5:Hid ((prog.info? 40).map (·.size)=some j.length):=by rw[F];exact Tryz.jW
     have b6:Hid ((prog.info? 40).map (·.size)=some j.toArray.size):=by rw[F];exact Tryz.jW
     have T:Hid (k.there c (i*7) j.toArray.size):=by
      obtain⟨_,_,_,_,_,h⟩:=f.o.pack.at f.o.own (i:=i) (by rw[Y];exact H);rw[F];exact h
     have a8:Hid (j.toArray.all (·.oneCell')=true):=by rw[F];exact all_oneCell_toArray (Q_.one m xa xc)
     have e1:c<k.heap.size:=(f.o.own.lt c rfl).2;clear F a1;go_upto_region 14 with (first | (refine wpList_load_mid rfl 40 (.tmp 10) rfl pb 0 rfl j _ b4.o underlying40 rfl b5.o ?_) | (refine wpList_store_mid rfl 40 (.tmp 79) (.tmp 78) rfl c (i*7) j.toArray rfl rfl T.o b6.o a8.o ?_;rw[List.toList_toArray]))
     obtain⟨B,J⟩:=aj (k.setCells c (i*7) j);rw[<-J];have a2:But (fun b=>b=c) k B:=by rw[J];exact iA j (i*7) k
     have a3:∀b,b=c->¬bn k b 9:=fun b e=>by rw[e];exact dE f.o.own c rfl
     have U:Hid (KnZ w B B p (.slice (some ⟨g,0,none⟩) R.length r) a d.length x R (some ⟨g,0,none⟩) r s):=by rw[J];exact f.o.kn.other f.o.own g2 f.o.ne (i*7) j
     have a4:Hid (B.ownsRow w.heap.size 40 7 (.slice (some ⟨c,0,none⟩) L.length X) L.length (ovr O (i*7) j)):=by rw[J];exact oq j (i*7) f.o.own
     have b7:Hid (bZ B (ovr O (i*7) j) (z.set i m)):=by
      rw[e0.o];refine (f.o.pack.set (by rw[Y];exact H) (c9.o.but (But.ax (S:=fun _=>False) A) (fun _ e=>e.elim)) h0.o).but a2 a3
     have b8:Hid (eU B 9 qa Q):=(d0.o.but (But.ax (S:=fun _=>False) A) (fun _ e=>e.elim)).but a2 a3;have k3:c<B.heap.size:=(a4.o.lt c rfl).2;have a5:Hid (∀b,(b=p\/(Value.slice (some ⟨g,0,none⟩) R.length r).ownBlock=some b)->¬bn B b 9):=fun b e=>by
      rcases e with e|e
      ·rw[e];exact fun ht=>aS U.o.known.row.type ht (by decide) rfl
      ·exact dE U.o.own b e
     have b9:=Kz f.o.ne;have e2:Hid (p≠c):=Cc f.o.kn.known f.o.own;clear J a2 a3 f b3 b4 b5 b6 T a8 c9 d0 b2 e1 A p1 p5 h1 s1 s5;go_wp2_with fail
     refine (pJ w B p d2 a x d qa qc Q R (some ⟨g,0,none⟩) r s (by omega) g8.o (by omega) U.o hN (b8.o.nst a5.o)).mono ?_;rintro e w7 ⟨rfl,d7,c0,c1,N⟩;have e3:Hid (uK w w7 p a d.length x L (bN (Kk d) R Q) (z.set i m) d7 c0 c1 c X (ovr O (i*7) j)):=by
      refine⟨N.again,N.fr.owns a4.o (fun b e=>?_),b7.o.but N.fr a5.o,fun e=>?_⟩
      ·simp only[Value.ownBlock,MV] at e;subst e;rintro (h|h)
       ·exact e2.o h.symm
       ·exact b9.o h
      ·rcases N.nw c e with h|h
       ·exact b9.o h
       ·omega
     clear N U a4 b7 b8 a5;go_wp2
     go_roundw
     case rel=>exact⟨i+1,_,bN (Kk d) R Q,z.set i m,d7,c0,c1,_,by omega,by go_num,rfl,d9,e3⟩
     case measure=>simp[intOf];omega
   ·have k5:¬((i:Int)<(L.length:Int)):=by omega
    have n3:i=L.length:=by omega
    subst n3;have k6:((R.length:Int) > (L.length:Int))↔L.length<R.length:=by omega
    clear H hi;cases b
    ·have n4:=k6;obtain⟨b',a9⟩:=aj ((false || decide (L.length<R.length)));have e4:=Kz (V.o.next c6 a7.o a9);have h3:Hid (Value.bool (decide (L.length<R.length))=Value.bool b'):=by show _=_;rw[a9];simp
     clear a9;go_wp2
     go_loopw [12] (fun b0 wr=>∃(i:Nat) (M:List Q_) (s:List NJ),i<=L.length/\b0= .int .i64 (i:Int)/\Hid (M=z.take i++R.drop i)/\Hid (uK w wr p a d.length x L M z (some ⟨g,0,none⟩) r s c X O)) (fun b0 _=>L.length-(intOf b0).toNat)
     case atStart=>exact⟨0,R,s,Mg _,rfl,by simp[Hid],n⟩
     case round=>
      clear n W zk a0;obtain⟨i,M,s,hi,rfl,HM,n⟩:=hrel;have c2:M.length=R.length:=by rw[HM.o,MU,MG,List.length_drop];omega
      have W:=n.o.kn.known.runs;have zk:=n.o.kn.known.row.lt;have a0:g<wr.heap.size:=(n.o.kn.own.lt g rfl).2;by_cases H:i<L.length
      ·have j8:(i:Int)<(L.length:Int):=by omega
       have n5:(i:Int)<(M.length:Int):=by omega
       have e5:i<M.length:=by omega
       have h4:=Kz c2;clear c2;obtain⟨D,E,C,c3,e6,_⟩:=n.o.pack.at n.o.own (i:=i) (by rw[Y];exact H);obtain⟨_,_,_,_,_,e7⟩:=n.o.kn.pack.at n.o.kn.own e5;obtain⟨q,Z⟩:=aj (z.getD i Q_.zero);rw[<-Z] at C c3;have t0:=C 0 _ rfl;have t1:=C 1 _ rfl;have t2:=C 2 _ rfl;have t3:=C 3 _ rfl;have t4:=C 4 _ rfl;have t5:=C 5 _ rfl;have t6:=C 6 _ rfl;rw[M_] at t0;have P:c<wr.heap.size:=(n.o.own.lt c rfl).2;have h5:Hid (M.set i q=z.take (i+1)++R.drop (i+1)):=by
        show _=_;have e8:i<z.length:=by rw[Y];exact H
        have h6:(z.take i).length=i:=by rw[MG];omega
        have c2:=h4.o;rw[HM.o,List.set_append_right _ _ (by omega),h6,Nat.sub_self,Nr (l:=R) (i:=i) (by omega),List.set_cons_zero,Ml e8,List.append_assoc,Z];simp[List.getD,e8]
       have⟨h7,h8,T⟩:=dF c3 e6 e7;have h9:Hid (∀u,K_ wr u->u.cell? ⟨p,1,none⟩=some (.slice (some ⟨g,0,none⟩) M.length r)/\u.cell? ⟨c,i*7,none⟩=some (.string q.name)/\u.cell? ⟨c,i*7+1,none⟩=some (.bool q.over)/\u.cell? ⟨c,i*7+2,none⟩=some (.bool q.fail)/\u.cell? ⟨c,i*7+3,none⟩=some (.string q.text)/\u.cell? ⟨c,i*7+4,none⟩=some (.int .i64 q.at')/\u.cell? ⟨c,i*7+5,none⟩=some (.int .i64 q.Zq)/\u.cell? ⟨c,i*7+6,none⟩=some (.slice D q.texts.length E)):=fun u K=>⟨(K.cell zk).trans W,(K.cell P).trans t0,(K.cell P).trans t1,(K.cell P).trans t2,(K.cell P).trans t3,(K.cell P).trans t4,(K.cell P).trans t5,(K.cell P).trans t6⟩
       clear Z C c3 e6 e7 t0 t1 t2 t3 t4 t5 t6;go_upto_region 19 with fail
       refine bC 10 h9.o fun k A a6=>?_
       refine au 0 a6 ?_;refine au 4 a6 ?_;refine ae 8 a6 ?_;refine ae 9 a6 ?_;have f:=Kz (n.o.kept A);have e9:k.there g (i*7) 7:=fun G hj=>⟨by rw[A.cell a0];exact (T.o G hj).1,(A.rules.2 g (i*7+G) a0).trans (T.o G hj).2⟩
       refine aG 10 (fun K hK=>?_);refine wp_store_mid 40 _ _ rfl g (i*7) #[.string q.name,.bool q.over,.bool q.fail,.string q.text,.int .i64 q.at',.int .i64 q.Zq,.slice D q.texts.length E] (by rfl) (by rfl) e9 (by kernel_rfl) (all_oneCell_toArray (Q_.one q D E)) ?_;refine af hK (fun h=>Nv rfl h) ?_;clear hK K e9;refine aF ?_;have f0:Hid (KnZ w (k.setCells g (i*7) (q.cells D E)) (k.setCells g (i*7) (q.cells D E)) p (.slice (some ⟨g,0,none⟩) (M.set i q).length r) a d.length x (M.set i q) (some ⟨g,0,none⟩) r (ovr s (i*7) (q.cells D E))):=f.o.kn.over e5 (h7.o.but (But.ax (S:=fun _=>False) A) (fun _ e=>e.elim)) h8.o;have c4:=iA (q.cells D E) (i*7) k (g:=g);have f1:Hid (uK w (k.setCells g (i*7) (q.cells D E)) p a d.length x L (M.set i q) z (some ⟨g,0,none⟩) r (ovr s (i*7) (q.cells D E)) c X O):=by
        refine⟨f0.o,c4.owns f.o.own (fun b e (n6:b=g)=>?_),f.o.pack.but c4 (fun b e=>by rw[e];exact dE f.o.kn.own g rfl), ?_⟩
        ·simp only[Value.ownBlock,MV] at e;exact f.o.ne (by simp only[Value.ownBlock,MV];omega)
        ·have h:=f.o.ne;simpa[Value.ownBlock] using h
       obtain⟨W9,c5⟩:=aj (k.setCells g (i*7) (q.cells D E));have f2:k.setCells g (i*7) [.string q.name,.bool q.over,.bool q.fail,.string q.text,.int .i64 q.at',.int .i64 q.Zq,.slice D q.texts.length E]=W9:=c5.symm;rw[f2];rw[<-c5] at f1;clear c5 f2 f0 c4 f n A W a6;go_wp2
       go_roundw
       case rel=>exact⟨i+1,M.set i q,_,by omega,by go_num,h5,f1⟩
       case measure=>simp[intOf];omega
      ·have k5:¬((i:Int)<(L.length:Int)):=by omega
       have i0:Hid (M=z++R.drop L.length):=by
        show _=_;rw[HM.o,show i=L.length by omega,<-Y,MN]
       clear H;go_wp2
       go_roundg (if b'=true then b_ (d.map (·.name)) (Qq (z++R.drop L.length))+1 else 0)
       case measure=>exact e4.o.2
       case rel=>exact⟨b',M,some ⟨g,0,none⟩,r,s,h3.o,by rw[i0.o];exact e4.o.1,n.o.kn⟩
    ·have n4:=k6;obtain⟨b',a9⟩:=aj ((true || decide (L.length<R.length)));have e4:=Kz (V.o.next c6 a7.o a9);have h3:Hid (Value.bool true=Value.bool b'):=by rw[a9];rfl
     clear a9;go_wp2
     go_loopw [12] (fun b0 wr=>∃(i:Nat) (M:List Q_) (s:List NJ),i<=L.length/\b0= .int .i64 (i:Int)/\Hid (M=z.take i++R.drop i)/\Hid (uK w wr p a d.length x L M z (some ⟨g,0,none⟩) r s c X O)) (fun b0 _=>L.length-(intOf b0).toNat)
     case atStart=>exact⟨0,R,s,Mg _,rfl,by simp[Hid],n⟩
     case round=>
      clear n W zk a0;obtain⟨i,M,s,hi,rfl,HM,n⟩:=hrel;have c2:M.length=R.length:=by rw[HM.o,MU,MG,List.length_drop];omega
      have W:=n.o.kn.known.runs;have zk:=n.o.kn.known.row.lt;have a0:g<wr.heap.size:=(n.o.kn.own.lt g rfl).2;by_cases H:i<L.length
      ·have j8:(i:Int)<(L.length:Int):=by omega
       have n5:(i:Int)<(M.length:Int):=by omega
       have e5:i<M.length:=by omega
       have h4:=Kz c2;clear c2;obtain⟨D,E,C,c3,e6,_⟩:=n.o.pack.at n.o.own (i:=i) (by rw[Y];exact H);obtain⟨_,_,_,_,_,e7⟩:=n.o.kn.pack.at n.o.kn.own e5;obtain⟨q,Z⟩:=aj (z.getD i Q_.zero);rw[<-Z] at C c3;have t0:=C 0 _ rfl;have t1:=C 1 _ rfl;have t2:=C 2 _ rfl;have t3:=C 3 _ rfl;have t4:=C 4 _ rfl;have t5:=C 5 _ rfl;have t6:=C 6 _ rfl;rw[M_] at t0;have P:c<wr.heap.size:=(n.o.own.lt c rfl).2;have h5:Hid (M.set i q=z.take (i+1)++R.drop (i+1)):=by
        show _=_;have e8:i<z.length:=by rw[Y];exact H
        have h6:(z.take i).length=i:=by rw[MG];omega
        have c2:=h4.o;rw[HM.o,List.set_append_right _ _ (by omega),h6,Nat.sub_self,Nr (l:=R) (i:=i) (by omega),List.set_cons_zero,Ml e8,List.append_assoc,Z];simp[List.getD,e8]
       have⟨h7,h8,T⟩:=dF c3 e6 e7;have h9:Hid (∀u,K_ wr u->u.cell? ⟨p,1,none⟩=some (.slice (some ⟨g,0,none⟩) M.length r)/\u.cell? ⟨c,i*7,none⟩=some (.string q.name)/\u.cell? ⟨c,i*7+1,none⟩=some (.bool q.over)/\u.cell? ⟨c,i*7+2,none⟩=some (.bool q.fail)/\u.cell? ⟨c,i*7+3,none⟩=some (.string q.text)/\u.cell? ⟨c,i*7+4,none⟩=some (.int .i64 q.at')/\u.cell? ⟨c,i*7+5,none⟩=some (.int .i64 q.Zq)/\u.cell? ⟨c,i*7+6,none⟩=some (.slice D q.texts.length E)):=fun u K=>⟨(K.cell zk).trans W,(K.cell P).trans t0,(K.cell P).trans t1,(K.cell P).trans t2,(K.cell P).trans t3,(K.cell P).trans t4,(K.cell P).trans t5,(K.cell P).trans t6⟩
       clear Z C c3 e6 e7 t0 t1 t2 t3 t4 t5 t6;go_upto_region 19 with fail
       refine bC 10 h9.o fun k A a6=>?_
       refine au 0 a6 ?_;refine au 4 a6 ?_;refine ae 8 a6 ?_;refine ae 9 a6 ?_;have f:=Kz (n.o.kept A);have e9:k.there g (i*7) 7:=fun G hj=>⟨by rw[A.cell a0];exact (T.o G hj).1,(A.rules.2 g (i*7+G) a0).trans (T.o G hj).2⟩
       refine aG 10 (fun K hK=>?_);refine wp_store_mid 40 _ _ rfl g (i*7) #[.string q.name,.bool q.over,.bool q.fail,.string q.text,.int .i64 q.at',.int .i64 q.Zq,.slice D q.texts.length E] (by rfl) (by rfl) e9 (by kernel_rfl) (all_oneCell_toArray (Q_.one q D E)) ?_;refine af hK (fun h=>Nv rfl h) ?_;clear hK K e9;refine aF ?_;have f0:Hid (KnZ w (k.setCells g (i*7) (q.cells D E)) (k.setCells g (i*7) (q.cells D E)) p (.slice (some ⟨g,0,none⟩) (M.set i q).length r) a d.length x (M.set i q) (some ⟨g,0,none⟩) r (ovr s (i*7) (q.cells D E))):=f.o.kn.over e5 (h7.o.but (But.ax (S:=fun _=>False) A) (fun _ e=>e.elim)) h8.o;have c4:=iA (q.cells D E) (i*7) k (g:=g);have f1:Hid (uK w (k.setCells g (i*7) (q.cells D E)) p a d.length x L (M.set i q) z (some ⟨g,0,none⟩) r (ovr s (i*7) (q.cells D E)) c X O):=by
        refine⟨f0.o,c4.owns f.o.own (fun b e (n6:b=g)=>?_),f.o.pack.but c4 (fun b e=>by rw[e];exact dE f.o.kn.own g rfl), ?_⟩
        ·simp only[Value.ownBlock,MV] at e;exact f.o.ne (by simp only[Value.ownBlock,MV];omega)
        ·have h:=f.o.ne;simpa[Value.ownBlock] using h
       obtain⟨W9,c5⟩:=aj (k.setCells g (i*7) (q.cells D E));have f2:k.setCells g (i*7) [.string q.name,.bool q.over,.bool q.fail,.string q.text,.int .i64 q.at',.int .i64 q.Zq,.slice D q.texts.length E]=W9:=c5.symm;rw[f2];rw[<-c5] at f1;clear c5 f2 f0 c4 f n A W a6;go_wp2
       go_roundw
       case rel=>exact⟨i+1,M.set i q,_,by omega,by go_num,h5,f1⟩
       case measure=>simp[intOf];omega
      ·have k5:¬((i:Int)<(L.length:Int)):=by omega
       have i0:Hid (M=z++R.drop L.length):=by
        show _=_;rw[HM.o,show i=L.length by omega,<-Y,MN]
       clear H;go_wp2
       go_roundg (if b'=true then b_ (d.map (·.name)) (Qq (z++R.drop L.length))+1 else 0)
       case measure=>exact e4.o.2
       case rel=>exact⟨b',M,some ⟨g,0,none⟩,r,s,h3.o,by rw[i0.o];exact e4.o.1,n.o.kn⟩
