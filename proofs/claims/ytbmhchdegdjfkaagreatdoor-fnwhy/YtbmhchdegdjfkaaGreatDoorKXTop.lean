import Derived.Test.YtbmhchdegdjfkaaGreatDoorKVNeeds
set_option maxRecDepth 100000
set_option maxHeartbeats 25600000
namespace Go.Proofs.YtbmhchdegdjfkaaGreatDoor
open Go.Proofs.Tryz
variable {A : dD} {n : KC}
section
variable {W : dQ} {σ : Env}
theorem rO(A:dD)(r:Q_):(bQ A r).2= (stepOf A (bQ A r).1.at').asks:=by
 unfold bQ;simp only
 split <;> rfl
theorem wm{q:Q_}(b:W q.name=some A)(f:aV W σ q):((Xx W σ q).1.at'=q.at'/\q.Zq≠0)\/(Xx W σ q).2= (stepOf A (Xx W σ q).1.at').asks:=by
 unfold Xx;rw[b];simp only;by_cases a:q.Zq=0
 ·rw[Kg a];exact .inr (rO A q)
 ·rw[Kh a];rcases f.2 with h|⟨k,i,c,j⟩
  ·exact Ki h a
  ·rw[b] at c;cases c;rw[j];simp only;by_cases d:q.Zq=20
   ·rw[Kg d];exact .inl ⟨rfl,a⟩
   ·rw[Kh d];by_cases e:(bR (stepOf A q.at') i).over=true
    ·rw[Kg e];exact .inl ⟨rfl,a⟩
    ·rw[Kh e];exact .inr (rO A _)
theorem uL(b:W n=some A):∀{k:Nat},(∀j,j<k+1->aV W σ (aJ W σ n j).1)->∀y∈(stepOf A (aJ W σ n (k+1)).1.at').asks,y∈(aJ W σ n (k+1)).2
 | 0,h,y,hy=>by
  have c:=h 0 (by omega);rcases wm (A:=A) (by rw[fF];exact b) c with⟨_,g⟩|g
  ·exact Ki rfl g
  ·show y∈(aJ W σ n 0).2++ (Xx W σ (aJ W σ n 0).1).2;rw[g];exact List.mem_append_right _ hy
 | k+1,h,y,hy=>by
  have c:=h (k+1) (by omega);have e:=uL b (k:=k) (fun j f=>h j (by omega));show y∈(aJ W σ n (k+1)).2++ (Xx W σ (aJ W σ n (k+1)).1).2;rcases wm (A:=A) (by rw[fF];exact b) c with⟨g,_⟩ | g
  ·refine List.mem_append_left _ (e y ?_);have d:y∈(stepOf A (Xx W σ (aJ W σ n (k+1)).1).1.at').asks:=hy;rw[g] at d;exact d
  ·rw[g];exact List.mem_append_right _ hy
theorem BR{q:Q_}(l:W q.name=some A)(j:aV W σ q)(a:(Xx W σ q).1.over=true):(stepOf A (Xx W σ q).1.at').fin=true\/(Xx W σ q).1.text=eY\/∃b,b∈(stepOf A (Xx W σ q).1.at').asks/\(Xx W σ q).1.text=eG++b:=by
 have m:∀r:Q_,r.over=false->(bQ A r).1.over=true->(stepOf A (bQ A r).1.at').fin=true:=fun r w h=>by
  unfold bQ at h⊢;simp only at h⊢;by_cases d:(stepOf A r.at').fin=true
  ·rw[Kg d];exact d
  ·rw[Kh d] at h;simp only at h;rw[w] at h;cases h
 unfold Xx at a⊢;rw[l] at a⊢;simp only at a⊢;by_cases k:q.Zq=0
 ·rw[Kg k] at a⊢;exact .inl (m q j.1 a)
 ·rw[Kh k] at a⊢;rcases j.2 with e|⟨C,f,n,p⟩
  ·exact Ki e k
  ·rw[l] at n;cases n;rw[p] at a⊢;simp only at a⊢;by_cases s:q.Zq=20
   ·rw[Kg s];exact .inr (.inl rfl)
   ·rw[Kh s] at a⊢;by_cases c:(bR (stepOf A q.at') f).over=true
    ·rw[Kg c];refine .inr (.inr ?_);show∃b,b∈(stepOf A q.at').asks/\(bR (stepOf A q.at') f).text=eG++b;unfold bR at c⊢;cases d:kU f 0 with
     | none=>rw[d] at c;simp at c
     | some i=>
      rw[d] at c;simp only at c⊢;obtain⟨x,D,y,E,_⟩:=kD d;have B:i=x:=by omega
      subst B;by_cases t:(stepOf A q.at').fall= -1
      ·rw[Kg t];obtain⟨v,F⟩:=mF p y;refine⟨(stepOf A q.at').asks.getD i ByteArray.empty, ?_,rfl⟩;simp only[List.getD,Jd v,Kl];exact Ji v
      ·rw[Kh t] at c;simp at c
    ·rw[Kh c] at a⊢;exact .inl (m {q with texts:=q.texts++aL f,at':=(bR (stepOf A q.at') f).at'} j.1 a)
theorem gZ.below{r:Q_}{L:List KC}{b:KC}(n:gZ W σ r L)(d:W r.name=some A)(a:r.over=true)(e:(stepOf A r.at').fin=false)(f:r.text=eG++b):b∈L:=by
 obtain⟨k,c,h⟩:=n;cases k with
 | zero=>
  have p:r=Q_.fresh r.name:=(Prod.mk.inj c).1.symm;rw[p] at a;cases a
 | succ k=>
  have q:=h k (by omega);have i:(Xx W σ (aJ W σ r.name k).1).1=r:=(Prod.mk.inj c).1;have s:W (aJ W σ r.name k).1.name=some A:=by rw[fF];exact d
  have j:=BR s q (by rw[i];exact a);rw[i] at j;rcases j with g|g|⟨l,t,v⟩
  ·rw[g] at e;cases e
  ·exact Ki (f.symm.trans g) iV
  ·have:l=b:=qW (v.symm.trans f);subst this;have m:=uL d h l;rw[c] at m;exact m t
theorem iN.tells(e:lQ W σ){l:List KC}(h:iN W σ n l):∀i,i+1<l.length->∃r,σ (l.getD i ByteArray.empty)=some r/\r.over=true/\r.fail=true/\r.text=eG++l.getD (i+1) ByteArray.empty/\gF W σ (l.getD i ByteArray.empty) (l.getD (i+1) ByteArray.empty):=by
 induction h with
 | gone _=>intro i c;simp at c
 | own _ _ _ _ _=>intro i c;simp at c
 | @more n b l r A h ho hf hA hn ht hb hc ih=>
  intro i c;cases i with
  | zero=>
   obtain⟨m,rfl⟩:=hc.head;obtain⟨f,L,d⟩:=e n r h;exact⟨r,h,ho,hf,ht,r,L,h,d,d.below (by rw[f];exact hA) ho hn ht⟩
  | succ i=>
   have:=ih i (by simp at c;omega);simpa using this
theorem iN.last{l:List KC}(h:iN W σ n l):σ (l.getD (l.length-1) ByteArray.empty)=none\/∃r,σ (l.getD (l.length-1) ByteArray.empty)=some r/\r.over=true/\r.fail=true:=by
 induction h with
 | gone h=>exact .inl h
 | own h ho hf _ _=>exact .inr ⟨_,h,ho,hf⟩
 | @more n b l r A h ho hf hA hn ht hb hc ih=>
  obtain⟨m,rfl⟩:=hc.head;simpa using ih
theorem iN.walk(a:lQ W σ){l:List KC}(h:iN W σ n l):∀k i,i+k+1=l.length->gp (gF W σ) k (l.getD i ByteArray.empty) (l.getD (l.length-1) ByteArray.empty)
 | 0,i,e=>by
  have:i=l.length-1:=by omega
  rw[<-this];exact .here _
 | k+1,i,e=>by
  obtain⟨r,_,_,_,_,g⟩:=h.tells a i (by omega);exact .step g (h.walk a k (i+1) (by omega))
end
open Go.RowKit
theorem zY{l:List Q_}{n:KC}{r:Q_}{j:Nat}{q:Int}(m:cZ l)(b:j<l.length)(p:l.getD j Q_.zero=r)(d:Qq l n=some r)(h:Ce l n q):q= (j:Int):=by
 rcases h with⟨k,c,s,a,t⟩|⟨_,a⟩
 ·rw[s];have e:l.getD k Q_.zero=l.getD j Q_.zero:=by rw[d] at a;rw[<-JR a,p]
  simp only[List.getD,Jd b,Jd c,Kl] at e;have f:=congrArg Q_.name e;have i:=Jj.1 m;rcases Ke k j with h|h|h
  ·exact Ki f (dA (i k j c b h))
  ·rw[h]
  ·exact Ki f.symm (dA (i j k b c h))
 ·rw[d] at a;cases a
theorem jM(w:KH)(a:KG)(G:Nat)(f:List Qz)(ra:KG)(Q:Nat)(Kj:List KC)(d:KG)(dc:Nat)(l:List Q_)(l5:f.length<=1048576)(d3:∀y∈f,y.Fits)(f9:Kj.length<=1048576)(g0:∀s∈Kj,s.size<=maxLen)(g1:l.length<=1048576)(i8:∀x∈l,x.texts.length<=1048576)
  (hN:bY w a f) (hS:bK w d l) (hR:Strs w ra Kj):
  Calls prog 19 #[.agg #[.slice a f.length G],.agg #[.slice ra Kj.length Q,.slice d l.length dc]] w fun e w'=>GZ e (fU f Kj l)/\K_ w w':=by
 obtain⟨WB,a6⟩:=ah ((w.alloc (.cells #[.slice a f.length G] 25)).alloc (.cells #[.slice ra Kj.length Q,.slice d l.length dc] 29));have kB:K_ w WB:=by rw[a6];exact (ag _ _).alloc _
 have i9:WB.heap.size=w.heap.size+2:=by rw[a6];simp
 have Z:WB.cell? ⟨w.heap.size,0,none⟩=some (.slice a f.length G):=by rw[a6,K_.cell (w:=w.alloc (.cells #[.slice a f.length G] 25)) (ag _ _) (by simp)];exact X_ w _ _ 0 _ rfl
 have a0:WB.cell? ⟨w.heap.size+1,0,none⟩=some (.slice ra Kj.length Q):=by have:=X_ (w.alloc (.cells #[.slice a f.length G] 25)) #[.slice ra Kj.length Q,.slice d l.length dc] 29 0 _ rfl;rw[JG] at this;rw[a6];exact this
 have R:WB.cell? ⟨w.heap.size+1,1,none⟩=some (.slice d l.length dc):=by have:=X_ (w.alloc (.cells #[.slice a f.length G] 25)) #[.slice ra Kj.length Q,.slice d l.length dc] 29 1 _ rfl;rw[JG] at this;rw[a6];exact this
 have z0:w.heap.size<WB.heap.size:=by omega
 have S:w.heap.size+1<WB.heap.size:=by omega
 have HC:Hid (∀w',K_ WB w'->w'.cell? ⟨w.heap.size,0,none⟩=some (.slice a f.length G)/\w'.cell? ⟨w.heap.size+1,0,none⟩=some (.slice ra Kj.length Q)/\w'.cell? ⟨w.heap.size+1,1,none⟩=some (.slice d l.length dc)/\w.heap.size<w'.heap.size/\w.heap.size+1<w'.heap.size):=fun w' K=>⟨(K.cell z0).trans Z,(K.cell S).trans a0,(K.cell S).trans R,I_ z0 K.size,I_ S K.size⟩
 have C:=Kz kB;clear kB i9 Z a0 R;go_enter func19,ntmps19
 go_upto_region 1 with fail
 rw[<-a6];clear a6;obtain⟨Z,a0,R,_,_⟩:=HC.o _ (K_.refl _);go_wp2_with fail
 refine (gy _ a G f (by unfold maxLen;omega) d3 (hN.kept C.o)).mono ?_;rintro e w1 ⟨⟨c,rfl,hc⟩,k1⟩;clear Z a0 R z0 S;obtain⟨Z,a0,R,z0,S⟩:=HC.o _ k1;by_cases d4:c=0;rotate_left
 ·have l6:(c != 0)=true:=by simpa using d4
  have j0:Hid (¬bu f 0):=fun h=>d4 (hc.unique h)
  clear d4 hc;go_wp2
  go_ret
  exact⟨⟨false,rfl,by simp only[Bool.false_eq_true,false_iff];exact fun h=>j0.o h.1⟩,C.o.trans k1⟩
 subst d4;have T:=Kz hc;clear hc;go_wp2_with fail
 refine (kX _ ra Q Kj (by unfold maxLen;omega) g0 (hR.kept (C.o.trans k1))).mono ?_;rintro e w2 ⟨e1,j1⟩;have K2:=k1.trans j1;clear Z a0 R z0 S;obtain⟨Z,a0,R,z0,S⟩:=HC.o _ K2;rcases e1.cases with⟨rfl,g2⟩|⟨rfl,g3⟩;rotate_left
 ·have j2:=Kz g3;clear g3 e1;go_wp2
  go_ret
  exact⟨⟨false,rfl,by simp only[Bool.false_eq_true,false_iff];exact fun h=>j2.o h.2.1⟩,C.o.trans K2⟩
 have HY:=Kz g2;clear g2 e1;by_cases g4:l.length<=f.length;rotate_left
 ·have j3:(f.length:Int)<(l.length:Int):=by omega
  go_wp2
  go_ret
  exact⟨⟨false,rfl,by simp only[Bool.false_eq_true,false_iff];exact fun h=>g4 h.2.2.1⟩,C.o.trans K2⟩
 have j3:¬(f.length:Int)<(l.length:Int):=by omega
 obtain⟨rb,ro,rfl,_,_⟩:=hR 0 (by have:=HY.o.1;omega);have l7:=kI T.o;have g5:=HY.o.2.1;go_wp2_with fail
 refine (tL w2 a G f rb ro Q Kj (by omega) d3 T.o HY.o g0 (hN.kept (C.o.trans K2)) (hR.kept (C.o.trans K2))).mono ?_;rintro e w3 ⟨O,n,P,p,xs,rfl,g6,g7,g8,g9⟩;have H:=K2.trans g9;have e2:Hid (Strs w3 O Kj/\bK w3 P (b_ f Kj)):=by
  obtain⟨l8,c9,h0,h3⟩:=bi g6;simp only[JJ,true_and] at h0;rw[<-h0.1] at h3;obtain⟨_,a8,c8,e8,h4⟩:=aZ.runs g7 g8 (K_.refl _);simp only[JJ,true_and] at e8;rw[<-e8.1] at h4;exact⟨h3,h4.runs⟩
 clear g6 g7 g8 g9;obtain⟨a1,e3⟩:=ah w3.heap.size;have j4:w3.heap.size<=a1:=by omega
 have h5:=Kz e3;clear Z a0 R z0 S;go_upto_region 4 with fail
 rw[<-e3];clear e3;go_wp2
 go_loopg [6] (2*oU f (b_ f Kj)+1) (fun gg x6 wr=>∃(L:List Q_) (bb:Bool) (O:KG) (n:Nat) (P:KG) (p:Nat),x6= .bool bb/\K_ w3 wr/\rY wr a1 Kj L O n P p/\Hid (Bz f Kj l L bb gg))
 case atStart=>exact⟨b_ f Kj,true,O,n,P,p,rfl,ag _ _,by rw[h5.o];exact rY.made e2.o.1 e2.o.2,Kz (Bz.begin T.o Kj l)⟩
 case round=>
  clear e2 h5;obtain⟨L,bb,O,n,P,p,rfl,Kr,D,I⟩:=hrel;obtain⟨wO,rfl⟩:=ah wr;obtain⟨gO,rfl⟩:=ah gk;have h6:L.length<=60:=by have:=I.o.good.len;omega
  obtain⟨Z,a0,R,z0,S⟩:=HC.o _ (H.trans Kr);have m0:=D.c0;have m1:=D.c1;have mz:=D.row.lt;have q:=Kz D;clear D;cases bb
  ·go_wp2_with fail
   refine (EZ wO O (some ⟨rb,ro,none⟩) P d n Q p dc Kj Kj L l f9 f9 (by omega) g1 (fun x hx=>by have h1:=(I.o.good.good x hx).tl;have h2:=(I.o.good.good x hx).hi;omega) i8 q.o.rts (hR.kept (C.o.trans (H.trans Kr))) q.o.rns (hS.kept (C.o.trans (H.trans Kr)))).mono ?_;rintro e w5 ⟨⟨b5,rfl,h7⟩,k5⟩;have H5:=Kz h7;clear h7;go_wp2
   go_ret
   refine⟨⟨b5,rfl, ?_⟩,C.o.trans ((H.trans Kr).trans k5)⟩;rw[H5.o];obtain⟨kk,hl⟩:=I.o.led;have h:=D_ I.o.good hl (I.o.fin rfl);exact⟨fun ⟨_,e⟩=>⟨T.o,HY.o,g4,h.1 e⟩,fun ⟨_,_,_,g⟩=>⟨by trivial,h.2 g⟩⟩
  ·go_wp2_with fail
   refine (qX wO a G f O Kj.length n P p L (by omega) (by omega) (lw T.o) (fun r hr _ _=>(I.o.good.good r hr).act) (hN.kept (C.o.trans (H.trans Kr))) q.o.rns).mono ?_;rintro e w6 ⟨⟨da,lc,J,rfl,e4,h8⟩,k6⟩;have b2:=Kz e4;have j5:=Kz (gJ.owned (xb:=a1) h8 mz);have l9:J.length<=60:=by have:=e4.len;omega
   have h9:=Kz (q.o.kept k6);have K6:=Kr.trans k6;clear e4 h8 Z a0 R z0 S m0 m1 mz q k6;obtain⟨L0,e5⟩:=ah L;have i1:Hid (gm f (Qq l) (Qq (b_ f Kj)) J L0 L 0 false):=by rw[e5];exact gm.start I.o.good I.o.led b2.o
   rw[<-e5] at I b2;clear e5 h6;go_wp2
   go_loopg [6,8] J.length (fun gg x6 x8 wr=>∃(m:Nat) (b:Bool) (L:List Q_) (O:KG) (n:Nat) (P:KG) (p:Nat),x6= .bool b/\x8= .int .i64 (m:Int)/\m+gg=J.length/\Xj a1 (a1+1) w6 wr/\rY wr a1 Kj L O n P p/\Hid (gm f (Qq l) (Qq (b_ f Kj)) J L0 L m b))
   case atStart=>exact⟨0,false,L,O,n,P,p,rfl,rfl,by omega,Xj.refl _ _ _,h9.o,i1⟩
   case round=>
    clear h9 i1;obtain⟨m,b,L,O,n,P,p,rfl,rfl,m2,KB,D,a2⟩:=hrel;obtain⟨U,rfl⟩:=ah wr;have h6:L.length<=60:=by have:=a2.o.good.len;omega
    have a3:K_ w3 U:=KB.kept K6 j4;by_cases j6:(m:Int)<(J.length:Int);rotate_left
    ·obtain rfl:m=J.length:=by omega
     obtain⟨h1,h2⟩:=I.o.next b2.o a2.o;have j7:=Kz h1;clear h1;go_wp2
     go_roundg (2*oU f L+ (if b=true then 1 else 0))
     case measure=>exact h2
     case rel=>exact⟨L,b,O,n,P,p,rfl,a3,D,j7⟩
    have d5:m<J.length:=by omega
    obtain⟨V,hn⟩:=ah (J.getD m ByteArray.empty);obtain⟨lb,lo,rfl,e6,m3,b3⟩:=j5.o.but KB m d5;rw[<-hn] at b3;obtain⟨pb,po,rfl,_,_⟩:=D.rts 0 (by have:=HY.o.1;omega);have i2:=a2.o.rest m (IZ _) d5;rw[<-hn] at i2;obtain⟨r,hr,i3⟩:=i2;obtain⟨j,hj,e7⟩:∃j,j<L.length/\L.getD j Q_.zero=r:=by
     obtain⟨j8,h1,h2⟩:=Jk (bC hr).1;exact⟨j8,h1,by simp only[List.getD,Jd h1,Kl,h2]⟩
    obtain⟨t,v,ta,tc,rfl,a7,E,i4,j9⟩:=D.rns j hj;rw[e7] at E i4;have⟨M,d6,HN,i5⟩:=jh hr i3 hn e7;have m0:=D.c0;have m1:=D.c1;have mz:=D.row.lt;have q:=Kz D;have t0:U.cell? ⟨t,v+j*7,none⟩=some (.string r.name):=E 0 _ rfl;have t1:U.cell? ⟨t,v+j*7+1,none⟩=some (.bool r.over):=E 1 _ rfl;have t2:U.cell? ⟨t,v+j*7+2,none⟩=some (.bool r.fail):=E 2 _ rfl;have t3:U.cell? ⟨t,v+j*7+3,none⟩=some (.string r.text):=E 3 _ rfl;have t4:U.cell? ⟨t,v+j*7+4,none⟩=some (.int .i64 r.at'):=E 4 _ rfl;have t5:U.cell? ⟨t,v+j*7+5,none⟩=some (.int .i64 r.Zq):=E 5 _ rfl;have t6:U.cell? ⟨t,v+j*7+6,none⟩=some (.slice ta r.texts.length tc):=E 6 _ rfl;have e9:Hid (∀w',K_ U w'->w'.cell? ⟨w.heap.size+1,0,none⟩=some (.slice (some ⟨rb,ro,none⟩) Kj.length Q)/\w'.cell? ⟨w.heap.size+1,1,none⟩=some (.slice d l.length dc)/\w'.cell? ⟨lb,lo+m,none⟩=some (.string V)):=fun w' K=>⟨(HC.o _ (H.trans (a3.trans K))).2.1,(HC.o _ (H.trans (a3.trans K))).2.2.1,(K.cell e6).trans b3⟩
    have a9:Hid (∀w',K_ U w'->w'.cell? ⟨a1,0,none⟩=some (.slice (some ⟨pb,po,none⟩) Kj.length n)/\w'.cell? ⟨a1,1,none⟩=some (.slice (some ⟨t,v,none⟩) L.length p)/\w'.cell? ⟨lb,lo+m,none⟩=some (.string V)/\w'.cell? ⟨t,v+j*7,none⟩=some (.string r.name)/\w'.cell? ⟨t,v+j*7+1,none⟩=some (.bool r.over)/\w'.cell? ⟨t,v+j*7+2,none⟩=some (.bool r.fail)/\w'.cell? ⟨t,v+j*7+3,none⟩=some (.string r.text)/\w'.cell? ⟨t,v+j*7+4,none⟩=some (.int .i64 r.at')/\w'.cell? ⟨t,v+j*7+5,none⟩=some (.int .i64 r.Zq)/\w'.cell? ⟨t,v+j*7+6,none⟩=some (.slice ta r.texts.length tc)):=fun w' K=>⟨(K.cell mz).trans m0,(K.cell mz).trans m1,(K.cell e6).trans b3,(K.cell a7).trans t0,(K.cell a7).trans t1,(K.cell a7).trans t2,(K.cell a7).trans t3,(K.cell a7).trans t4,(K.cell a7).trans t5,(K.cell a7).trans t6⟩
    have d7:Hid (∀w',K_ U w'->w'.cell? ⟨w.heap.size,0,none⟩=some (.slice a f.length G)/\w'.cell? ⟨a1,0,none⟩=some (.slice (some ⟨pb,po,none⟩) Kj.length n)/\w'.cell? ⟨a1,1,none⟩=some (.slice (some ⟨t,v,none⟩) L.length p)/\w'.cell? ⟨lb,lo+m,none⟩=some (.string V)):=fun w' K=>⟨(HC.o _ (H.trans (a3.trans K))).1,(K.cell mz).trans m0,(K.cell mz).trans m1,(K.cell e6).trans b3⟩
    clear hr i3 hn e7 D E i4 j9 t0 t1 t2 t3 t4 t5 t6 m0 m1 b3;have i0:(m:Int)<(J.length:Int):=j6;go_upto_region 11 with fail
    refine bS 6 e9.o fun F B k=>?_
    refine aB 0 k ?_;refine ae 4 k ?_;refine ai 5 (fun K i=>?_);go_simp
    go_at_call 43
    refine (gQ F (some ⟨rb,ro,none⟩) Kj.length Q d dc l V g1 (hS.kept (C.o.trans (H.trans (a3.trans B))))).mono ?_;rintro e w7 ⟨⟨m4,rfl,i6⟩,i7⟩;have K7:=B.trans i7;have k0:=Kz i6;refine i.out _ _ (fun _=>e9.o _ K7) ?_;clear i K k i6;try simp only[Act.put,upA,upB,upC]
    refine af 6 (fun K i=>?_);go_simp
    refine i.out _ _ (fun h=>Ki rfl h) ?_;clear i K;try simp only[Act.put,upA,upB,upC]
    refine ay ?_;clear B i7;go_upto_region 12 with fail
    go_cut [10] from 49 to 58 (fun k2 wx=>∃gb,k2= .pointer (some ⟨gb,0,none⟩)/\K_ w7 wx/\eZ wx gb r ta tc)
    case first=>
     refine gL 11 a9.o (K7.drew) (fun k=>?_);have B:K_ w7 w7.drew:=aG w7;generalize b4:w7.drew=F at k B⊢;clear b4;refine aB 0 k ?_;refine ae 4 k ?_;refine ae 5 k ?_;refine ae 6 k ?_;refine bG 7 10 (fun K i=>?_) (fun K i=>?_)
     ·rw[Kg (by rfl)];go_simp
      go_at_call 43
      refine (gQ F (some ⟨pb,po,none⟩) Kj.length n (some ⟨t,v,none⟩) p L V (by omega) (q.o.rns.kept (K7.trans B))).mono ?_;rintro e X ⟨⟨q8,rfl,b6⟩,k8⟩;obtain rfl:=zY a2.o.good.asc hj i5.o M.o b6;have k3:(j:Int)<(L.length:Int):=by omega
      have A:=(K7.trans B).trans k8;refine i.out _ _ (fun _=>a9.o _ A) ?_;clear i K k b6;have k:=a9.o _ A;try simp only[Act.put,upA,upB,upC]
      refine ae 8 k ?_;refine ae 9 k ?_;refine af 10 (fun K i=>?_);go_simp
      have N:K_ X (X.alloc (.cells #[.string ⟨#[]⟩,.bool false,.bool false,.string ⟨#[]⟩,.int .i64 0,.int .i64 0,.slice none 0 0] 40)):=ag _ _;have a4:au (X.alloc (.cells #[.string ⟨#[]⟩,.bool false,.bool false,.string ⟨#[]⟩,.int .i64 0,.int .i64 0,.slice none 0 0] 40)) X.heap.size 40 7:=au.made X _ _;have KE:=(B.trans k8).trans N;have nz:=(B.trans k8).size;obtain⟨gb,b7⟩:=ah X.heap.size;refine i.out _ _ (fun _=>a9.o _ (K7.trans KE)) ?_;clear i K;rw[<-b7] at a4 nz⊢;generalize f0:X.alloc (.cells #[.string ⟨#[]⟩,.bool false,.bool false,.string ⟨#[]⟩,.int .i64 0,.int .i64 0,.slice none 0 0] 40)=wE at a4 KE⊢;clear f0 N b7;try simp only[Act.put,upA,upB,upC]
      obtain⟨⟨⟨_,v0⟩,f1⟩,⟨⟨_,v1⟩,f2⟩,⟨⟨_,v2⟩,k4⟩,⟨⟨_,v3⟩,k7⟩,⟨⟨_,v4⟩,k9⟩,⟨⟨_,v5⟩,l0⟩,⟨_,v6⟩,f6⟩:=a4.row.AB;have vz:=a4.lt;refine af 11 (fun K i=>?_);go_simp
      refine i.out _ _ (fun h=>Ki rfl h) ?_;clear i K;try simp only[Act.put,upA,upB,upC]
      refine ay ?_;go_wp2
      go_meet
      exact⟨gb,rfl,bT (g:=gb) nz [.string r.name,.bool r.over,.bool r.fail,.string r.text,.int .i64 r.at',.int .i64 r.Zq,.slice ta r.texts.length tc] 0 KE,eZ.laid a4⟩
     ·rw[Kg (by rfl)];go_simp
      have N:K_ F (F.alloc (.cells #[.string ⟨#[]⟩,.bool false,.bool false,.string ⟨#[]⟩,.int .i64 0,.int .i64 0,.slice none 0 0] 40)):=ag _ _;have f3:au (F.alloc (.cells #[.string ⟨#[]⟩,.bool false,.bool false,.string ⟨#[]⟩,.int .i64 0,.int .i64 0,.slice none 0 0] 40)) F.heap.size 40 7:=au.made F _ _;have KF:=B.trans N;have nz:=B.size;obtain⟨gb,b7⟩:=ah F.heap.size;refine i.out _ _ (fun _=>a9.o _ (K7.trans KF)) ?_;clear i K;rw[<-b7] at f3 nz⊢;generalize f0:F.alloc (.cells #[.string ⟨#[]⟩,.bool false,.bool false,.string ⟨#[]⟩,.int .i64 0,.int .i64 0,.slice none 0 0] 40)=wF at f3 KF⊢;clear f0 N b7;try simp only[Act.put,upA,upB,upC]
      refine ai 7 (fun K i=>?_);go_simp
      go_at_call 43
      refine (gQ wF (some ⟨pb,po,none⟩) Kj.length n (some ⟨t,v,none⟩) p L V (by omega) (q.o.rns.kept (K7.trans KF))).mono ?_;rintro e X ⟨⟨q8,rfl,b6⟩,k8⟩;obtain rfl:=zY a2.o.good.asc hj i5.o M.o b6;have k3:(j:Int)<(L.length:Int):=by omega
      have A:=(K7.trans KF).trans k8;refine i.out _ _ (fun _=>a9.o _ A) ?_;clear i K k b6;have k:=a9.o _ A;try simp only[Act.put,upA,upB,upC]
      refine ae 8 k ?_;refine ae 9 k ?_;have a4:=f3.kept k8;have KE:=KF.trans k8;obtain⟨⟨⟨_,v0⟩,f1⟩,⟨⟨_,v1⟩,f2⟩,⟨⟨_,v2⟩,k4⟩,⟨⟨_,v3⟩,k7⟩,⟨⟨_,v4⟩,k9⟩,⟨⟨_,v5⟩,l0⟩,⟨_,v6⟩,f6⟩:=a4.row.AB;have vz:=a4.lt;refine af 11 (fun K i=>?_);go_simp
      refine i.out _ _ (fun h=>Ki rfl h) ?_;clear i K;try simp only[Act.put,upA,upB,upC]
      refine ay ?_;go_wp2
      go_meet
      exact⟨gb,rfl,bT (g:=gb) nz [.string r.name,.bool r.over,.bool r.fail,.string r.text,.int .i64 r.at',.int .i64 r.Zq,.slice ta r.texts.length tc] 0 KE,eZ.laid a4⟩
    case rest=>
     obtain⟨gb,rfl,k8,f4⟩:=hcut;obtain⟨X,rfl⟩:=ah wc;have A:=K7.trans k8;obtain⟨_,_,_,_,_,m5,_⟩:=f4.all;have gz:=f4.row.lt;obtain⟨_,R,_⟩:=e9.o _ A;have S:=(HC.o _ (H.trans (a3.trans A))).2.2.2.2;have d8:Hid (¬Behind (W:=Kk f) a_ (Qq l) (Qq L) V->gm f (Qq l) (Qq (b_ f Kj)) J L0 L (m+1) b):=fun h=>a2.o.skip (by rw[<-HN.o];exact h)
     clear f4 k8;go_upto_region 13 with fail
     rcases k0.o with⟨d9,hq,rfl,b1,_⟩|⟨rfl,b1⟩;rotate_left
     ·have b0:=Kz b1;clear b1
      go_quiet (fail)
      go_wp2
      go_roundg (gk-1)
      case measure=>omega
      case rel=>exact⟨m+1,b,L,_,n,_,p,rfl,by go_num,by omega,(KB.trans (Xj.aC A)).drewN nq,q.o.kept (A.drewN nq),Kz (d8.o (sD b0.o))⟩
     obtain⟨g,hg⟩:=ah (l.getD d9 Q_.zero);rw[<-hg] at b1;have b0:=Kz b1;obtain⟨hb,ho,ua,uc,rfl,f5,E,_,_⟩:=hS d9 hq;rw[<-hg] at E;have KW:=C.o.trans (H.trans (a3.trans A));have u1:=(KW.cell f5).trans (E 1 _ rfl);have u5:=(KW.cell f5).trans (E 5 _ rfl);have uz:=I_ f5 KW.size;have m6:¬(d9:Int)<0:=by omega
     have ql:(d9:Int)<(l.length:Int):=by omega
     clear b1 E hg;by_cases h1:g.Zq<r.Zq
     ·go_quiet (fail)
      go_wp2
      go_roundg (gk-1)
      case measure=>omega
      case rel=>exact⟨m+1,b,L,_,n,_,p,rfl,by go_num,by omega,(KB.trans (Xj.aC A)).drewN nq,q.o.kept (A.drewN nq),Kz (d8.o (oK M.o b0.o (by rintro (h | ⟨h,_⟩) <;> omega)))⟩
     by_cases h2:r.Zq=g.Zq
     ·have l1:(r.Zq == g.Zq)=true:=by simp[h2]
      have H2:=Kz h2;clear h2;cases e0:g.over
      ·rw[e0] at u1
       go_quiet (fail)
       go_wp2
       go_roundg (gk-1)
       case measure=>omega
       case rel=>exact⟨m+1,b,L,_,n,_,p,rfl,by go_num,by omega,(KB.trans (Xj.aC A)).drewN nq,q.o.kept (A.drewN nq),Kz (d8.o (oK M.o b0.o (by have:=H2.o;rintro (h|⟨_,h,_⟩);omega;rw[e0] at h;cases h)))⟩
      ·rw[e0] at u1;by_cases m7:r.Zq<20
       ·go_quiet (fail)
        go_wp2
        go_roundg (gk-1)
        case measure=>omega
        case rel=>exact⟨m+1,b,L,_,n,_,p,rfl,by go_num,by omega,(KB.trans (Xj.aC A)).drewN nq,q.o.kept (A.drewN nq),Kz (d8.o (oK M.o b0.o (by have:=H2.o;rintro (h | ⟨_,_,h⟩) <;> omega)))⟩
       ·have f7:Hid (Behind (W:=Kk f) a_ (Qq l) (Qq L) V):=⟨⟨r,M.o,d6.o⟩,r,g,M.o,b0.o,.inr ⟨H2.o,e0,by omega⟩⟩
        go_quiet (fail)
        have N:=A.drewN nq;generalize f8:X.drewN nq=w9 at N⊢;clear f8;go_upto_region 14 with fail
        refine gL 7 d7.o (N.drew) (fun k=>?_);have B:K_ w9 w9.drew:=aG w9;generalize b4:w9.drew=F at k B⊢;clear b4;refine aB 0 k ?_;refine ae 4 k ?_;refine ae 5 k ?_;refine ai 6 (fun K i=>?_);go_simp
        go_at_call 50
        have Y:=N.trans B;refine (yg F a G f pb po n Kj (some ⟨t,v,none⟩) p L V r (by omega) (by omega) (lw T.o) (dL T.o) d3 g5 a2.o.good M.o d6.o (hN.kept (C.o.trans (H.trans (a3.trans Y)))) (q.o.rns.kept Y) (q.o.rts.kept Y)).mono ?_;rintro e wA ⟨b8,b9,c2,c3,l2,rfl,c4,c5,c6,kA⟩;have KA:=Y.trans kA;have zA:=Y.size;have c7:=Kz (rY.laid (by omega) (q.o.row.kept KA) c4 c5 c6);have d0:Hid (gm f (Qq l) (Qq (b_ f Kj)) J L0 (doL (Kk f) L r) (m+1) true):=a2.o.did (dL T.o) (b2.o.nodup I.o.good.asc) d5 (by rw[<-HN.o];exact f7.o) (by rw[<-HN.o];exact M.o);clear c4 c5 c6 kA;obtain⟨d1,d2⟩:=ah (doL (Kk f) L r);rw[<-d2] at c7 d0⊢;clear d2;have a5:=q.o.row.kept KA;obtain⟨⟨_,x0⟩,f1⟩:=a5.row.at (i:=0) (by omega);obtain⟨⟨_,x1⟩,f2⟩:=a5.row.at (i:=1) (by omega);have l3:=a5.lt;clear a5;refine i.out _ _ (fun _=>d7.o _ KA) ?_;clear i K k;try simp only[Act.put,upA,upB,upC]
        refine af 7 (fun K i=>?_);go_simp
        refine i.out _ _ (fun h=>Ki rfl h) ?_;clear i K;try simp only[Act.put,upA,upB,upC]
        refine ay ?_;go_wp2
        go_roundg (gk-1)
        case measure=>omega
        case rel=>exact⟨m+1,true,d1,b8,b9,c2,c3,rfl,by go_num,by omega,Xj.sets (IZ _) (Jw _) [.slice b8 Kj.length b9,.slice c2 d1.length c3] 0 (KB.trans (Xj.aC KA)),c7.o,d0⟩
     ·have l1:(r.Zq == g.Zq)=false:=by simpa using h2
      have l4:r.Zq<g.Zq:=by omega
      clear h2;have f7:Hid (Behind (W:=Kk f) a_ (Qq l) (Qq L) V):=⟨⟨r,M.o,d6.o⟩,r,g,M.o,b0.o,.inl l4⟩
      go_quiet (fail)
      have N:=A.drewN nq;generalize f8:X.drewN nq=w9 at N⊢;clear f8;go_upto_region 14 with fail
      refine gL 7 d7.o (N.drew) (fun k=>?_);have B:K_ w9 w9.drew:=aG w9;generalize b4:w9.drew=F at k B⊢;clear b4;refine aB 0 k ?_;refine ae 4 k ?_;refine ae 5 k ?_;refine ai 6 (fun K i=>?_);go_simp
      go_at_call 50
      have Y:=N.trans B;refine (yg F a G f pb po n Kj (some ⟨t,v,none⟩) p L V r (by omega) (by omega) (lw T.o) (dL T.o) d3 g5 a2.o.good M.o d6.o (hN.kept (C.o.trans (H.trans (a3.trans Y)))) (q.o.rns.kept Y) (q.o.rts.kept Y)).mono ?_;rintro e wA ⟨b8,b9,c2,c3,l2,rfl,c4,c5,c6,kA⟩;have KA:=Y.trans kA;have zA:=Y.size;have c7:=Kz (rY.laid (by omega) (q.o.row.kept KA) c4 c5 c6);have d0:Hid (gm f (Qq l) (Qq (b_ f Kj)) J L0 (doL (Kk f) L r) (m+1) true):=a2.o.did (dL T.o) (b2.o.nodup I.o.good.asc) d5 (by rw[<-HN.o];exact f7.o) (by rw[<-HN.o];exact M.o);clear c4 c5 c6 kA;obtain⟨d1,d2⟩:=ah (doL (Kk f) L r);rw[<-d2] at c7 d0⊢;clear d2;have a5:=q.o.row.kept KA;obtain⟨⟨_,x0⟩,f1⟩:=a5.row.at (i:=0) (by omega);obtain⟨⟨_,x1⟩,f2⟩:=a5.row.at (i:=1) (by omega);have l3:=a5.lt;clear a5;refine i.out _ _ (fun _=>d7.o _ KA) ?_;clear i K k;try simp only[Act.put,upA,upB,upC]
      refine af 7 (fun K i=>?_);go_simp
      refine i.out _ _ (fun h=>Ki rfl h) ?_;clear i K;try simp only[Act.put,upA,upB,upC]
      refine ay ?_;go_wp2
      go_roundg (gk-1)
      case measure=>omega
      case rel=>exact⟨m+1,true,d1,b8,b9,c2,c3,rfl,by go_num,by omega,Xj.sets (IZ _) (Jw _) [.slice b8 Kj.length b9,.slice c2 d1.length c3] 0 (KB.trans (Xj.aC KA)),c7.o,d0⟩
theorem fU.good{a:List Qz}{Kj:List KC}{b:List Q_}(h:fU a Kj b):fM a b:=by
 obtain⟨_,_,_,k,L,d,_,_,rfl⟩:=h;exact d
