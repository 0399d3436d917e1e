import Derived.Test.YtjbipapbckajnaaGreatDoorKBSeq
import Derived.Test.YtjbipapbckajnaaGreatDoorKIter
import Derived.Test.YtjbipapbckajnaaGreatDoorKLOutc
set_option maxRecDepth 100000
set_option maxHeartbeats 25600000
namespace Go.Proofs.YtjbipapbckajnaaGreatDoor
open Go.RowKit Go.Proofs.Tryz
def Bv(ts:List Zx)(ws:Ps->List Nat)(x s:Ps):Prop:=∃t∈ts,t.r.name=x/\t.tb∈ws s
structure Ee (ts:List Zx) (ws:Ps->List Nat) (M:Nat) (P:Ps->Prop) (ol:Ps->List Ps):Prop where
 iff:∀x s,s∈ol x↔P s/\Bv ts ws x s
 nd:∀x,(ol x).Nodup
 len:∀x,(ol x).length<=M
variable {ws : Ps -> List Nat} {P : Ps -> Prop} {ts : List Zx}
theorem Ee.start(h:∀s,¬P s):Ee ts ws 0 P (λ_=>[]):=
 ⟨λx s=>⟨λe=>(by cases e),λe=>(h s e.1).elim⟩,λ_=>List.nodup_nil,λ_=>NQ _⟩
structure Dq (ts:List Zx) (ws:Ps->List Nat) (M:Nat) (P:Ps->Prop) (s:Ps) (k:Nat) (ol:Ps->List Ps):Prop where
 iff:∀x s',s'∈ol x↔(P s'/\Bv ts ws x s')\/(s'=s/\∃t∈ts,t.r.name=x/\t.tb∈(ws s).take k)
 nd:∀x,(ol x).Nodup
 len:∀x,(ol x).length<=M
variable {ol : Ps -> List Ps}
theorem Ee.enter{M:Nat}(h:Ee ts ws M P ol)(s:Ps):Dq ts ws M P s 0 ol:=
 ⟨λx d=>by rw[h.iff];simp,h.nd,h.len⟩
variable {s : Ps}
theorem Dq.leave{M:Nat}{Q:Ps->Prop}{k:Nat}(h:Dq ts ws M P s k ol)(d:(ws s).length<=k)(e:∀c,Q c↔P c\/c=s):Ee ts ws M Q ol:=
 ⟨λx c=>by
  rw[h.iff,e,Oy d];constructor
  .rintro (⟨a,b⟩|⟨a,b⟩)
   .exact⟨.inl a,b⟩
   .subst a;exact⟨.inr rfl,b⟩
  .rintro⟨a|a,b⟩
   .exact .inl ⟨a,b⟩
   .subst a;exact .inr ⟨rfl,b⟩,h.nd,h.len⟩
theorem Dq.put{M:Nat}{k:Nat}(i:Dq ts ws M P s k ol)(D:¬P s)(l:dz (Qk ts))(E:(ts.map (·.tb)).Nodup)(F:(ws s).Nodup){u:Zx}(m:u∈ts)(G:(ws s)[k]? =some u.tb):
  Dq ts ws (M+1) P s (k+1) (λn=>if n=u.r.name then ol u.r.name++ [s] else ol n):=by
 obtain⟨q,v⟩:=NW.1 G;have w:(ws s).take (k+1)= (ws s).take k++ [u.tb]:=by rw[NY q,v]
 have one:∀t∈ts,t.r.name=u.r.name->t=u:=λt y e=>by
  have a:=bE l (OP (f:=λt:Zx=>t.r) y);have d:=bE l (OP (f:=λt:Zx=>t.r) m);rw[e,d] at a;obtain⟨p,z,rfl⟩:=Oc y;obtain⟨j,A,rfl⟩:=Oc m;rcases Pd p j with g | g | g
  .have:=Ob.1 l p j (by simpa[Qk] using z) (by simpa[Qk] using A) g;simp only[Qk,List.getElem_map] at this;exact Pg e (dU this)
  .subst g;rfl
  .have:=Ob.1 l j p (by simpa[Qk] using A) (by simpa[Qk] using z) g;simp only[Qk,List.getElem_map] at this;exact Pg e.symm (dU this)
 have H:u.tb∉(ws s).take k:=λi=>by
  obtain⟨I,J,e⟩:=Oc i;rw[Oo] at J;rw[OA] at e;have:=Ob.1 F I k A7 q A7;exact this (e.trans v.symm)
 refine⟨λx L=>?_,λx=>?_,λx=>?_⟩
 .by_cases e:x=u.r.name
  .simp only[Pe e];subst e;rw[N_,NZ,i.iff,w];constructor
   .rintro ((a|⟨a,t,d,h,c⟩) | a)
    .exact .inl a
    .exact .inr ⟨a,t,d,h,N_.2 (.inl c)⟩
    .exact .inr ⟨a,u,m,rfl,N_.2 (.inr A9)⟩
   .rintro (a|⟨a,t,d,h,c⟩)
    .exact .inl (.inl a)
    .exact .inr a
  .simp only[Pf e];rw[i.iff,w];constructor
   .rintro (a|⟨a,t,d,h,c⟩)
    .exact .inl a
    .exact .inr ⟨a,t,d,h,N_.2 (.inl c)⟩
   .rintro (a|⟨a,t,d,h,c⟩)
    .exact .inl a
    .rcases N_.1 c with c|c
     .exact .inr ⟨a,t,d,h,c⟩
     .rw[NZ] at c;have:=rW E d m c;rw[this] at h;exact Pg h.symm e
 .by_cases e:x=u.r.name
  .simp only[Pe e];rw[List.nodup_append];refine⟨i.nd _,A9,λN B b C K=>?_⟩;rw[NZ] at C;rw[K,C,i.iff] at B;rcases B with⟨a,_⟩ | ⟨_,t,d,h,c⟩
   .exact D a
   .rw[one t d h] at c;exact H c
  .simp only[Pf e];exact i.nd x
 .by_cases e:x=u.r.name
  .simp only[Pe e];rw[OD];have:=i.len u.r.name;show _+1<=M+1;omega
  .simp only[Pf e];have:=i.len x;omega
variable {left : Lit -> Bool} {cnt : Nat}
theorem jq{H:Type}{P:Program}{k:TypeId}{c:Pw->Option (DataW H×List MemPlace)}{w w':Pv}{b r n:Nat}{D:DataW H}{S:Nat->Prop}(h:w.ranges P k c b r n D left cnt)(q:But S w w')(i:¬S b)(j:¬S r):w'.ranges P k c b r n D left cnt:=by
 obtain⟨l,m,p,s,t,e,v,x,y,f,z⟩:=h;exact⟨l,m,p,s,t,(q.block b (aO e) i).trans e,v,x,y,(q.block r (aO f) j).trans f,z⟩
theorem mq{H:Type}{P:Program}{k:TypeId}{a:Pw->Option (DataW H×List MemPlace)}{w:Pv}{b r n:Nat}{D:DataW H}(h:w.ranges P k a b r n D left cnt){t:TypeId}:¬bf w r t:=by
 obtain⟨d,f,i,j,l,_,_,_,_,c,_⟩:=h;rintro⟨m,p,e⟩;rw[c] at e;cases e
theorem xO{H:Type}{P:Program}{k:TypeId}{a:Pw->Option (DataW H×List MemPlace)}{w:Pv}{b r n:Nat}{D:DataW H}(h:w.ranges P k a b r n D left cnt){t:TypeId}:¬bf w b t:=by
 obtain⟨d,f,i,j,l,c,_⟩:=h;rintro⟨m,p,e⟩;rw[c] at e;cases e
theorem BS.NK{Kj:List Qq}(h:BS Kj ts ws)(e:aX (Q_ Kj)){t:Zx}(b:t∈ts)(f:t.tb∈ws s):1<=s.size/\s.size<=20:=by
 have a:=(h.wt s t b).1 f;obtain⟨A,c,i,j⟩:=(h.good.good t.r (OP b)).act;unfold pend at a
 split at a
 .cases a
 .rw[c] at a;have d:=(ja (e _ _ c).1 i j).2 s (List.mem_filter.1 a).1;exact⟨d.1,d.2.1⟩
theorem Ct{a:Ps}:(a_ a).sameKey (a_ s)=true↔a=s:=by
 constructor
 .intro h;by_cases e:a=s
  .exact e
  .rw[Maps.sameKey_ne (gm e)] at h;cases h
 .rintro rfl;simp[a_,Lit.sameKey]
def MC(ts:List Zx)(ws:Ps->List Nat)(w w':Pv)(e:Ending):Prop:=
 ∃mo M g ol,e= .returned (.map (some mo))/\jr w' w.heap.size mo M g ol/\Ee ts ws M (λ_=>True) ol/\M<=600000/\K_ w w'
section
variable {G : bV} {Kj : List Qq} {wz w w' : Pv} {bb : Nat} {a : Pt} {cap : Nat} {rd : Pt} {rn rc : Nat} {mb mx : Nat} {ts : List Zx} {d : Pt} {dc : Nat} {f : Ps -> Pw} {ws : Ps -> List Nat}
theorem Ae(N:BM G Kj wz w bb a cap rd rn rc mb mx ts d dc f ws)(hS:BS Kj ts ws)(c4:aX (Q_ Kj))(h1:mx<=9000)(h2:ts.length<=60):
  Calls prog 41 #[.c bb] w λe w'=>MC ts ws w w' e:=by
 obtain⟨V,D,hN,W,hf⟩:=N.map;have h3:=W.size_le;obtain⟨E,O⟩:=ai (w.alloc (.map #[] 0));have P:K_ w E:=by rw[O];exact ah _ _
 have c5:Hid (jr E w.heap.size w.heap.size 0 (λ_=>.slice none 0 0) (λ_=>[])):=by rw[O];exact jr.made (NQ _)
 have zM:E.heap.size=w.heap.size+1:=by rw[O];simp
 have HM:=Kz (dN (S:=λ_=>False) W (But.au P) id);have e5:J4 E bb 5 (.map (some mb)):=(N.kept P).c5;have bz:bb<E.heap.size:=(N.kept P).row.lt;have h5:mb<w.heap.size:=W.lt;have⟨I,Q,HF⟩:=fu N hS hf;clear N hS W hf;have e6:(Instr.makeMap 95 none).run prog w= .ok (.map (some w.heap.size)) (w.alloc (.map #[] 0)):=rfl;go_enter func41,ntmps41
 go_upto_region 2 with fail
 clear e6;rw[<-O];clear O;go_wp2_with (first | (at_range;refine wpList_range_own _ rfl _ 117 rfl 9 118 Tryz.keyed underlying117 asIs mb V D rfl HM.o ?_;intro w0 a7 a8 c6))
 go_frame
 obtain⟨v,c7⟩:=ai E.heap.size;rw[<-c7] at a7 c6⊢;have K0:K_ w w0:=(But.aI (S:=λ_=>False) a8 (λb e=>by cases e)).kept P (λb e=>e.elim);have c8:K_ E w0:=(But.aI (S:=λ_=>False) a8 (λb e=>by cases e)).kept (K_.refl _) (λb e=>e.elim);have X:=Kz (c5.o.kept c8);obtain⟨y,Y⟩:=ai w.heap.size;have X:Hid (jr w0 w.heap.size y 0 (λ_=>.slice none 0 0) (λ_=>[])):=by rw[Y];exact X
 have h6:y<v:=A7;have h7:w.heap.size<v:=A7;rw[<-Y];have c9:Hid (w.heap.size<=y):=Ot Y.symm;clear Y c5 c8 a8 c6 e5 c7 zM P HM;go_loopw [4] (λ_ wr=>∃(left:Lit->Bool) (Z M:Nat) (g:Ps->Pw) (k:Ps->List Ps),wr.ranges prog 9 asIs mb v V D left Z/\M+60*Z<=600000/\Hid (jr wr w.heap.size y M g k)/\Hid (Ee ts ws M (λs=>Maps.has D (a_ s)=true/\left (a_ s)=false) k)/\K_ w wr) (λ_ wr=>wr.rangeLeft mb v)
 case atStart=>exact⟨_,_,0,_,_,a7,A7,X,Kz (Ee.start λs h=>by have l:=h.1;have p:=h.2;rw[l] at p;cases p),K0⟩
 case round=>
  clear X K0 a7;obtain⟨left,Z,M,g,k,a9,h8,q,R,Kr⟩:=hrel;go_wp2_with (first | (at_next;refine wpList_next_ranges (α:=Ps) (β:=Pw) _ rfl _ rfl 9 Tryz.keyed asIs Value.string id (λh9 kl hk=>by obtain⟨x,J,_⟩:=Maps.keyOf_str underlying9 hk;exact⟨_,J⟩) (λe7 e8 T=>⟨e7,rfl⟩) mb v V D left Z rfl a9 ?_ ?_))
  .intro d0 e9;go_wp2
   go_ret
   refine⟨y,M,g,k,rfl,q.o,⟨λx s=>?_,R.o.nd,R.o.len⟩,A7,Kr⟩;rw[R.o.iff];refine⟨λh=>⟨trivial,h.2⟩,λh=>⟨⟨?_,e9 _⟩,h.2⟩⟩;obtain⟨i0,ht,_,b0⟩:=h.2;cases a0:Maps.has D (a_ s)
   .have a1:=(Q.o.NK c4 ht b0).2;have l:=HF.o s D5;rw[Maps.atKey_of_not_has a0] at l;have p:f s= .slice none 0 0:=by injection l with l;exact l.symm
    have a2:=I.o.jg s;rw[p] at a2;rcases a2.2 with⟨_,h4⟩|⟨_,_,_,h4,_⟩
    .rw[Og.1 h4] at b0;cases b0
    .cases h4
   .rfl
  .intro s c kl yd yp w1 b1 d1 d2 T b2 f0 f1 b3 f2 b4;have a1:s.size<=maxLen/\kl=a_ s:=by
    obtain⟨x',e1,e2,f3⟩:=Maps.keyOf_str underlying9 d1;unfold encStr at e1;injection e1 with e1;subst e1;exact⟨by show x'.toArray.size<=maxLen;simpa using f3,by rw[e2];unfold a_;simp⟩
   obtain⟨a1,rfl⟩:=a1;have a3:c=f s:=by
    have l:=b2 (.held J3);rw[HF.o s a1] at l;unfold asIs at T;simp only[OE,Prod.mk.injEq] at T;rw[<-T.1] at l;injection l with l;exact l.symm
   obtain⟨ua,uc,i⟩:=ay (I.o.jg s);rw[a3,i] at b4;have a0:Maps.has D (a_ s)=true:=Maps.has_true_of_atKey b2;have K1:K_ w w1:=(But.aI (S:=λb=>b=v) b3 (λb e=>(OQ e).symm)).kept Kr (λb e=>by rw[e];omega);have d3:=Kz (q.o.but (But.aI (S:=λb=>b=v) b3 (λb e=>(OQ e).symm)) A7 (λs' b e e2=>by rw[e2] at e;exact mq a9 (Yz (q.o.row s') e)));have⟨Hu,i1,f4,f5⟩:=jW i a3 d2 a0;have f6:=Q.o.Nh s;have d4:=Kz (R.o.enter s);rw[a3,i];clear i a3 d2 a0 T b2 d1 b3 f2 q;obtain⟨t,hn⟩:=ai ((ws s).length);rw[<-hn] at b4 f6⊢;have Hn:=Kz hn;clear hn;go_wp2_with fail
   clear b4;go_loopw [21] (λxi wr=>∃(m M:Nat) (g:Ps->Pw) (k:Ps->List Ps),m<=t/\xi= .a (m:Int)/\wr.ranges prog 9 asIs mb v V D (λz=>left z && !z.sameKey (a_ s)) b1/\M+ (t-m)+60*b1<=600000/\Hid (jr wr w.heap.size y M g k)/\Hid (Dq ts ws M (λs=>Maps.has D (a_ s)=true/\left (a_ s)=false) s m k)/\K_ w wr) (λxi _=>t-(intOf xi).toNat)
   case atStart=>exact⟨0,M,g,k,NS _,rfl,f0,A7,d3,d4,K1⟩
   case round=>
    clear d3 d4 K1 R;obtain⟨m,M,g,k,hk,rfl,b5,i2,q,HJ,F⟩:=hrel;by_cases i3:m<t
    .obtain⟨n,a4⟩:∃n,(ws s)[m]? =some n:=⟨_,NV (by have:=Hn.o;omega)⟩;obtain⟨u,i,a5⟩:=Q.o.ww s n (Oe a4);have b6:=I.o.kept F;have hT:=b6.fE u i;have b7:=b6.jg s;rw[Hu.o,<-Hn.o] at b7;obtain⟨b,o,rfl,hb,d5⟩:=eD b7 m (by simp;have:=Hn.o;omega);have c0:wr.cell? ⟨b,o+m,none⟩=some (.c n):=by rw[d5 m (lM n) (by simp[a4])];rfl
     obtain⟨x,J⟩:=ai u.r.name;have n0:wr.cell? ⟨n,0,none⟩=some (.string x):=by rw[<-a5,J];exact hT.rng 0 _ rfl
     have d6:n<w.heap.size:=by rw[<-a5];exact (I.o.fE u i).row.lt
     have f7:n<wr.heap.size:=NR d6 F.size;have b8:x.size<=maxLen:=by
      obtain⟨i4,hA,_⟩:=(Q.o.good.good u.r (OP i)).act;have:=(c4 _ _ hA).2.2.1;rw[J];unfold maxLen;omega
     obtain⟨va,vc,hg⟩:=ay (q.o.row x);have Hg:=Kz hg;have b9:Hid (∀w',K_ wr w'->J4 w' n 0 (.string x)/\(Instr.lookup 95 (.map (some y)) (.string x) false).run prog w'= .ok (.slice va (k x).length vc) w'):=λw' K=>⟨(K.cell f7).trans n0,by rw[<-Hg.o];exact (q.o.kept K).look b8⟩
     have i5:=HJ.o.len x;have f8:Hid (Dq ts ws (M+1) (λs=>Maps.has D (a_ s)=true/\left (a_ s)=false) s (m+1) (λt=>if t=x then k x++ [s] else k t)):=by
      rw[J];exact HJ.o.put (λh=>by rw[f4.o] at h;exact Pg h.2 A9) I.o.asc I.o.tbs (Q.o.wn s) i (by rw[a5];exact a4)
     obtain⟨ic,d0,f9,g0,g1⟩:=aY Tryz.eP;have i6:=F.size;have i7:(m:Int)<(t:Int):=A7;clear hT b6 b7 d5 hg a4 a5 J;go_upto_region 8 with fail
     clear c0 n0;refine bn 16 b9.o λH KD L=>?_
     refine ax 0 L ?_;refine ax 4 L ?_;refine ax 8 L ?_;refine ae 12 L ?_;refine ae 13 L ?_;refine aj 14 (λK A=>?_);go_simp
     have K5:K_ H (H.alloc (.cells #[.string s] 9)):=ah _ _;have c1:J4 (H.alloc (.cells #[.string s] 9)) H.heap.size 0 (.string s):=Xz H #[.string s] 9 0 _ rfl;have B:=KD.trans K5;refine A.out _ _ (λ_=>b9.o _ B) ?_;clear A K L;have C:=Kz (q.o.kept B);obtain⟨eb,d7⟩:=ai H.heap.size;rw[<-d7] at c1⊢;generalize g2:H.alloc (.cells #[.string s] 9)=w6 at c1 B C⊢;clear g2 K5 d7;have c2:=C.o.row x;rw[Hg.o] at c2;have g3:=Kz c2;have g4:w.heap.size<=w6.heap.size:=(F.trans B).size;clear c2;try simp only[upP]
     refine aj 15 (λK A=>?_);refine step_append_lies _ rfl (.tmp 37) (.tmp 39) 26 rfl w.heap.size 9 ic _ 1 16 underlying26 d0 f9 g0 g1 rfl A8 (.slice va (k x).length vc) (k x).length ((k x).map Value.string) rfl g3.o ⟨eb,0,none⟩ 1 1 [.string s] rfl rfl (λj u i=>?_) (λu i=>?_) A8 D5 A7 g4 w6.heap.size rfl ?_
     .match j,i with
      | 0,i=>simp at i;subst i;rw[OI];exact c1
      | j+1,i=>simp at i
     .simp at i;subst i;rfl
     intro gb gc w7 d8 U c3 i8;rw[<-Hg.o] at U c3;obtain⟨w8,g5,d9,e0⟩:=C.o.put (s:=x) (x:=s) b8 d8 U (λe8 e=>by simp only[Value.ownBlock,OE] at e;subst e;rcases c3 with h | h;exact .inl h;exact .inr (Ot h.symm)) A7;have⟨g6,e3⟩:=aH d9 e0;have e4:But (λb=>(g x).ownBlock=some b) w6 w7:=But.aI U (λb e=>e);have g7:n<w6.heap.size:=NR d6 (F.trans B).size;have g8:Hid (J4 w7 n 0 (.string x)/\(Instr.lookup 95 (.map (some y)) (.string x) false).run prog w7= .ok (.slice va (k x).length vc) w7):=by
      exact⟨(e4.cell g7 (λe=>by have:=((C.o.row x).lt n e).1;omega)).trans (b9.o _ B).1,by have h:=C.o.sJ (s:=x) b8 U;rw[Hg.o] at h;exact h⟩
     refine af A (λ_=>g8.o) ?_;clear A K d9 d8 U c3 e4 e0;refine aj 16 (λK A=>?_);go_simp
     refine af A (λh=>Pg rfl h) ?_;clear A K;refine aG ?_;have K8:K_ w w8:=e3.o.kept (F.trans B) (λb e=>by
      rcases e with e|e
      .exact ((C.o.row x).lt b e).1
      .rw[e];exact c9.o)
     have a6:=jq (S:=λ_=>False) b5 (But.au B) id id;have g9:=jq a6 e3.o (λe=>by
      rcases e with e|e
      .exact xO a6 (Yz (C.o.row x) e)
      .have:=c9.o;omega) (λe=>by
      rcases e with e|e
      .exact mq a6 (Yz (C.o.row x) e)
      .omega)
     clear a6 g5;go_wp2
     go_roundw
     case rel=>exact⟨m+1,M+1,_,_,A7,C8,g9,A7,g6,f8,K8⟩
     case measure=>simp[intOf];omega
    .have h0:m=t:=A7;go_wp2
     go_roundw
     case rel=>
      refine⟨_,b1,M,g,k,b5,A7,q,Kz (HJ.o.leave (by rw[h0,Hn.o];exact NQ _) (λs'=>?_)),F⟩;constructor
      .rintro⟨l,p⟩;by_cases e:s'=s
       .exact .inr e
       .refine .inl ⟨l, ?_⟩;have a2:(a_ s').sameKey (a_ s)=false:=Maps.sameKey_ne (gm e);rw[a2] at p;simpa using p
      .rintro (⟨l,p⟩|rfl)
       .exact⟨l,by rw[p];rfl⟩
       .exact⟨f5.o,by rw[Ct.2 rfl];simp⟩
     case measure=>rw[b5.left_eq,a9.left_eq];exact f1
end
open Go.RowKit Go.Sort
def wB(l ns:List Ps):Prop:=ns.Perm l/\ns.Pairwise λa b=>¬aR b a
theorem wB.asc{l a:List Ps}(h:wB l a)(d:l.Nodup):nD a/\∀s,s∈a↔s∈l:=by
 refine⟨?_,λs=>h.1.mem_iff⟩;have e:a.Nodup:=h.1.nodup_iff.2 d;unfold nD;exact (h.2.and e).imp λ{f b} c=>by
  rcases dJ f b with g|g|g
  .exact g
  .exact Pg g c.2
  .exact Pg g c.1
theorem yf(l:List Ps):wB l (((l.map λs=>s.data.toList).mergeSort λx y=>decide (x<=y)).map λx=>(⟨x.toArray⟩:Ps)):=by
 constructor
 .have h:=(List.mergeSort_perm (l.map λs=>s.data.toList) (λx y=>decide (x<=y))).map (λx:List UInt8=>(⟨x.toArray⟩:Ps));rw[List.map_map] at h;have j:((λx:List UInt8=>(⟨x.toArray⟩:Ps)) ∘ λs:Ps=>s.data.toList)=id:=by
   funext s
   simp
  rw[j,List.map_id] at h;exact h
 .rw[List.pairwise_map];have h:=List.pairwise_mergeSort (le:=λx y:List UInt8=>decide (x<=y)) (λa b c d e=>by
   simp only[Pk] at d e⊢;exact List.le_trans d e) (λa b=>by
   simp only[Bool.or_eq_true,Pk];exact List.le_total a b) (l.map λs=>s.data.toList)
  refine h.imp λ{a b} f=>?_
  simp only[Pk] at f;unfold aR;rw[bytesLess_eq];simp only[Pk];have i:∀x:List UInt8,(⟨x.toArray⟩:Ps).toList=x:=λx=>by simp[ByteArray.toList_eq]
  rw[i,i];exact List.not_lt.2 f
theorem IM(l:List Ps):(l.map λs=>s.data.toList).map encStr=l.map Value.string:=by
 rw[List.map_map];apply List.map_congr_left;intro s _;simp[encStr]
theorem xG(w:Pv)(h:Nat)(d:Pt)(dc:Nat)(l:List Ps)(I:l.length<=1048576)(J:h<w.heap.size)(K:w.cell? ⟨h,0,none⟩=some (.slice d l.length dc))(L:Strs w d l):
  Calls prog 50 #[.func (.func 108) #[] #[.c h]] w λe w'=>∃v ns,e= .returned v/\w'.ownsRow w.heap.size 9 1 v ns.length (ns.map Value.string)/\wB l ns/\K_ w w':=by
 go_enter func50,ntmps50
 go_wp2_with fail
 refine (DN w h d dc l I J K L).mono ?_;rintro e b ⟨v,rfl,i,s⟩;have X:=Kz i;rcases i.2 with⟨rfl,M⟩|⟨g,t,Y,rfl,z,j,N,A,B,C⟩
 .clear i;go_wp2_with fail
  refine (Tryz.slices_Sort_string_none none 0 b).mono ?_;rintro e D ⟨rfl,c⟩;rw[c];clear c D;go_wp2
  go_ret
  have O:l=[]:=Og.1 M;refine⟨_,[],rfl,OO _ _ _ _,by rw[O];exact⟨List.Perm.refl _,List.Pairwise.nil⟩,s⟩
 .obtain⟨a,k⟩:=ai (l.map λP=>P.data.toList);have m:a.length=l.length:=by rw[k];simp
  have E:Holds encStr b g 0 a.toArray:=holds_of_block j (by rw[m,k,IM];simpa using C);have F:=Kz (Tryz.slices_Sort_string g 0 t a b E (aO j) A7);have Q:Hid (∀n f,b.grownBy (grow (putRow encStr (Sort.ahead b n) g 0 (a.mergeSort λx y=>decide (x<=y)).toArray) f) (some g)/\(grow (putRow encStr (Sort.ahead b n) g 0 (a.mergeSort λx y=>decide (x<=y)).toArray) f).ownsRow w.heap.size 9 1 (.b g a.length t) a.length ((a.mergeSort λx y=>decide (x<=y)).map encStr)):=λn f=>⟨grownBy_sorted _,ownsRow_sorted A9 z j A7 A (by simpa using B)⟩
  rw[m] at F;have⟨R,G⟩:=aH k m;clear i C B A N j E k m;go_wp2_with fail
  refine F.o.mono ?_;rintro e D ⟨rfl,n,f,c⟩;obtain⟨q,p⟩:=Q.o n f;rw[<-c] at q p;rw[G.o] at p;have⟨T,U⟩:=aH q p;clear q p c;go_wp2
  go_ret
  have H:=yf l;rw[<-R.o] at H;have V:((a.mergeSort λx y=>decide (x<=y)).map λx=>(⟨x.toArray⟩:Ps)).length=l.length:=by simp[G.o]
  have W:((a.mergeSort λx y=>decide (x<=y)).map λx=>(⟨x.toArray⟩:Ps)).map Value.string= (a.mergeSort λx y=>decide (x<=y)).map encStr:=by rw[List.map_map];rfl
  refine⟨_,_,rfl,by rw[V,W];exact U.o,H, ?_⟩;exact (But.aI (S:=λr=>r=g) T.o (λr e=>(OQ e).symm)).kept s (λr e=>by rw[e];exact z)
theorem xQ{w:Pv}{B N:Nat}{D:DataW Pw}(h:w.ownsMap prog 9 asIs B N D){d:List (List UInt8)}(j:d.Perm (strKeys D)):
  ∃nm:List Ps,nm.length=d.length/\nm.map Value.string= (d.mergeSort λx y=>decide (x<=y)).map encStr/\nD nm/\∀s,s∈nm↔Maps.has D (a_ s)=true:=by
 obtain⟨b,z,C,_⟩:=h.entries Tryz.keyed;obtain⟨E,A,F⟩:=h.keysOf;obtain rfl:b=E:=by rw[z] at A;simpa using A
 subst z;have k:∀p∈b,∃x,p.1= .string x:=λp j=>by obtain⟨v,G⟩:=F p j;obtain⟨x,_,H,_⟩:=Maps.keyOf_str underlying9 G;exact⟨x,H⟩
 have I:(strKeys (.map b)).Nodup:=by
  refine List.pairwise_map.2 (C.imp_of_mem λ{p J} c K n e=>n ?_);obtain⟨a,f⟩:=k p c;obtain⟨L,M⟩:=k J K;rw[f,M] at e⊢;exact congrArg _ e
 have O:∀x,x∈strKeys (.map b)↔Maps.has (.map b) (.string x)=true:=λx=>by
  rw[Maps.has_eq,List.any_eq_true];show x∈b.map (λp=>strOf p.1)↔_;rw[Oq];constructor
  .rintro⟨p,c,rfl⟩;obtain⟨a,f⟩:=k p c;exact⟨p,c,by rw[f];simp[Lit.sameKey,strOf]⟩
  .rintro⟨p,c,i⟩;obtain⟨a,f⟩:=k p c;rw[f] at i;exact⟨p,c,by rw[f];simpa[Lit.sameKey,strOf] using i⟩
 obtain⟨l,P⟩:∃l:List Ps,l=d.map λx=>(⟨x.toArray⟩:Ps):=⟨_,rfl⟩
 have q:(l.map λs=>s.data.toList)=d:=by
  rw[P,List.map_map];have e:((λs:Ps=>s.data.toList) ∘ λx:List UInt8=>(⟨x.toArray⟩:Ps))=id:=by funext x;simp
  rw[e,List.map_id]
 have i:=yf l;rw[q] at i;have Q:l.Nodup:=by
  have m:d.Nodup:=j.nodup_iff.2 I;rw[<-q] at m;exact (List.pairwise_map.1 m).imp λ{a L} n e=>n (by rw[e])
 obtain⟨m,R⟩:=i.asc Q;refine⟨_,A9,by rw[List.map_map];rfl,m,λs=>?_⟩;rw[R];show s∈l↔Maps.has (.map b) (.string s.data.toList)=true;rw[<-O,<-j.mem_iff,<-q];constructor
 .intro r;exact OP r
 .intro r;obtain⟨t,S,T⟩:=Oq.1 r;have:t=s:=by
   have U:t.data=s.data:=by have:=congrArg List.toArray T;simpa using this
   cases t;cases s;simp_all
  rw[<-this];exact S
structure sG (w:Pv) (mo:Nat) (kp:Ps->Prop) (ol:Ps->List Ps):Prop where
 map:∃N D,N<=1000000/\w.ownsMap prog 9 asIs mo N D/\(∀s:Ps,s.size<=maxLen->∃a c,D.atKey (a_ s) (.held J3)= .held (.slice a (ol s).length c)/\Strs w a (ol s))/\∀s:Ps,Maps.has D (a_ s)=true↔kp s
 sub:∀s,ol s≠[]->kp s
theorem sG.look{w w':Pv}{d:Nat}{f:Ps->Prop}{ol:Ps->List Ps}(h:sG w d f ol)(k:K_ w w'){s:Ps}(e:s.size<=maxLen):∃a c,(Instr.lookup 95 (.map (some d)) (.string s) false).run prog w'= .ok (.slice a (ol s).length c) w'/\Strs w' a (ol s):=by
 obtain⟨N,D,_,i,j,_⟩:=h.map;have l:=dN (S:=λ_=>False) i (But.au k) id;obtain⟨v,x,n,b⟩:=l.lookup Tryz.keyed underlying95 (Tryz.FM w') (zd:= .held J3) (zp:=[]) rfl (WideMaps.keyOf_string_mk underlying9 e);obtain⟨a,c,p,q⟩:=j s e;refine⟨a,c, ?_,q.kept k⟩;unfold asIs at b;simp only[OE,Prod.mk.injEq] at b;have r:(DataW.held v:DataW Pw)= .held (.slice a (ol s).length c):=b.1.trans p;cases r;exact n
def Ff(k:Nat):Nat:=k*1000000
theorem Gw(k:Nat):Ff (k+1)=Ff k+1000000:=by unfold Ff;omega
theorem Ga{k:Nat}(h:k<=60):Ff k<=60000000:=by unfold Ff;omega
def Jj(kp:Ps->Prop)(ol:Ps->List Ps)(w w':Pv)(e:Ending):Prop:=
 ∃(na:Pt) (nc:Nat) (nm:List Ps) (nb mb M:Nat) (need back:Nat->List Nat),e= .returned (.agg #[.slice na nm.length nc,.b nb nm.length nm.length,.b mb nm.length nm.length])/\nD nm/\(∀s,s∈nm↔kp s)/\rG w' na nm nb mb need back/\yA (λx y=>y∈ol x) nm M need back/\M<=60000000/\K_ w w'
structure ObM (u:Pv) (ob:Nat) (na:Pt) (nc n nb mb:Nat):Prop where
 c0:u.cell? ⟨ob,0,none⟩=some (.slice na n nc)
 c1:u.cell? ⟨ob,1,none⟩=some (.b nb n n)
 c2:u.cell? ⟨ob,2,none⟩=some (.b mb n n)
 ty:bf u ob 93
variable {mb n nb nc ob : Nat} {na : Pt} {u : Pv}
theorem ObM.lt(h:ObM u ob na nc n nb mb):ob<u.heap.size:=by
 obtain⟨c,f,b⟩:=h.ty;exact aO b
theorem ObM.but{S:Nat->Prop}{b:Pv}(h:ObM u ob na nc n nb mb)(k:But S u b)(a:¬S ob):ObM b ob na nc n nb mb:=
 ⟨(k.cell h.lt a).trans h.c0,(k.cell h.lt a).trans h.c1,(k.cell h.lt a).trans h.c2,by
  obtain⟨c,f,d⟩:=h.ty;exact⟨c,f,(k.block _ h.lt a).trans d⟩⟩
theorem ObM.kept{a:Pv}(h:ObM u ob na nc n nb mb)(k:K_ u a):ObM a ob na nc n nb mb:=h.but (S:=λ_=>False) (But.au k) id
def TabJ(w2:Pv)(na:Pt)(nc n:Nat)(a b:Act)(u:Pv):Prop:=
 ∃ob nb mb,b= {a with tmps:=((((((((a.tmps.setIfInBounds 14 (.slice na n nc)).setIfInBounds 15 (.slice na n nc)).setIfInBounds 16 (.a (n:Int))).setIfInBounds 17 (.b nb n n)).setIfInBounds 18 (.slice na n nc)).setIfInBounds 19 (.a (n:Int))).setIfInBounds 20 (.b mb n n)).setIfInBounds 21 (.agg #[.slice na n nc,.b nb n n,.b mb n n])).setIfInBounds 4 (.c ob)}/\
  ObM u ob na nc n nb mb/\u.rowIs nb 27 n (λ_=>.slice none 0 0)/\u.rowIs mb 27 n (λ_=>.slice none 0 0)/\nb≠mb/\w2.heap.size<=nb/\w2.heap.size<=mb/\K_ w2 u
theorem rH{b:Nat}{t:TypeId}{v:Pw}(h:u.heap[b]? =some (.cells (madeCells #[v] n) t)):u.rowIs b t n (λ_=>v):=by
 obtain⟨c,a,d⟩:=World.rowIs_made u v n t;rw[heap_alloc_new] at a;cases a;exact⟨_,h,d⟩
theorem bG(w2:Pv)(a b c:Obj):((((w2.alloc a).alloc b).alloc c).drew).heap[w2.heap.size]? =some a/\((((w2.alloc a).alloc b).alloc c).drew).heap[w2.heap.size+1]? =some b/\((((w2.alloc a).alloc b).alloc c).drew).heap[w2.heap.size+1+1]? =some c/\K_ w2 (((w2.alloc a).alloc b).alloc c).drew:=by
 have e:=heap_alloc_new w2 a;have d:=heap_alloc_new (w2.alloc a) b;have f:=heap_alloc_new ((w2.alloc a).alloc b) c;rw[OC] at d;rw[OC,OC] at f;have h:K_ ((w2.alloc a).alloc b) (((w2.alloc a).alloc b).alloc c).drew:=(ah _ _).drew;have i:K_ (w2.alloc a) (((w2.alloc a).alloc b).alloc c).drew:=((ah _ _).alloc _).drew;exact⟨(i.block _ (aO e)).trans e,(h.block _ (aO d)).trans d,f,(((ah _ _).alloc _).alloc _).drew⟩
theorem kI{w2:Pv}(a:u.heap[ob]? =some (.cells #[.slice na n nc,.b nb n n,.b mb n n] 93))(b:u.heap[nb]? =some (.cells (madeCells #[J3] n) 27))(h2:u.heap[mb]? =some (.cells (madeCells #[J3] n) 27))(c:nb≠mb)(d:w2.heap.size<=nb)(e:w2.heap.size<=mb)(k:K_ w2 u):
  ObM u ob na nc n nb mb/\u.rowIs nb 27 n (λ_=>.slice none 0 0)/\u.rowIs mb 27 n (λ_=>.slice none 0 0)/\nb≠mb/\w2.heap.size<=nb/\w2.heap.size<=mb/\K_ w2 u:=
 ⟨⟨by simp[World.cell?,a],by simp[World.cell?,a],by simp[World.cell?,a],⟨_,_,a⟩⟩,rH b,rH h2,c,d,e,k⟩
theorem Tryz.Jb :(prog.info? 93).map (·.size)=some 3:=C9
theorem Tryz.KS :(prog.info? 3).map (λi=>(i.zero,i.size,i.bytes))=some (some (.a 0),1,8):=C9
theorem Tryz.Lb :(prog.info? 27).map (λi=>(i.zero,i.size,i.bytes))=some (some J3,1,24):=C9
theorem vI(w:Pv)(mo:Nat)(kp:Ps->Prop)(ol:Ps->List Ps)(all:List Ps)(m8:∀s,kp s->s∈all)(m9:all.length<=60)(n0:∀s,kp s->s.size<=20)(n1:∀s,(ol s).length<=1000000)(hL:sG w mo kp ol):
  Calls prog 40 #[.map (some mo)] w λe w'=>Jj kp ol w w' e:=by
 obtain⟨n2,n3,hN,hM,hf,i1⟩:=hL.map;have n4:=hM.size_le;obtain⟨W0,b0⟩:=ai (w.alloc (.cells #[J3,J3,J3] 93));have k0:K_ w W0:=by rw[b0];exact ah _ _
 have n5:Hid (aB W0 w.heap.size 93 3):=by rw[b0];exact aB.made w #[J3,J3,J3] 93
 have i2:=dN (S:=λ_=>False) hM (But.au k0) id;have i3:=Kz (callsIn_wide.1 (Tryz.Cg (some mo) W0));have i4:=Kz (callsIn_wide.1 (Tryz.mV mo n2 n3 asIs W0 i2 D5 A7));have⟨HM,e7,HL⟩:=fu hM i1 hL;clear hM i2 hf i1 hL n4;go_enter func40,ntmps40
 go_upto_region 1 with fail
 rw[<-b0];have p8:w.heap.size+1=W0.heap.size:=by rw[b0];simp
 clear b0;go_wp2_with fail
 refine i3.o.mono ?_;rintro e w1 ⟨rfl,i5⟩;rw[i5];clear i5 w1;go_wp2_with fail
 refine i4.o.mono ?_;rintro e b ⟨v,ss,rfl,hp,d0,n6,hb⟩;obtain⟨d,i6,i7,e8,e9⟩:=xQ HM.o hp;rw[<-i7,<-i6] at d0;have k2:K_ W0 b:=K_.trans (ah _ _) hb;obtain⟨na,R,X,i8⟩:=bv d0;subst X;have i9:d.length<=60:=by
  refine NT (List.Nodup.length_le_of_subset ?_ (λx hx=>m8 x ((e7.o x).1 ((e9 x).1 hx)))) m9;exact e8.imp λ{a f} n7=>dU n7
 have⟨f0,j0,j1,f1⟩:=jW i8 d0 k2 e8;have f2:Hid (∀s,s∈d↔kp s):=λs=>(e9 s).trans (e7.o s)
 have K2:=k0.trans k2;clear hp d0 n6 hb i6 i7 e9 i8 e8 i3 i4 k2 k0 e7 HM;obtain⟨n,hn⟩:=ai d.length;rw[<-hn] at i9⊢;have b1:=Kz hn;clear hn;have n8:=run_make_row' (P:=prog) 91 27 _ _ underlying91 Tryz.Lb rfl .i64 .i64 n A7 A7;go_upto_region 2 with fail
 refine vk (TabJ b na R n) ?_ ?_
 .go_region
  .refine⟨rfl,b.heap.size+1+1,b.heap.size,b.heap.size+1, ?_,kI (bG b _ _ _).2.2.1 (bG b _ _ _).1 (bG b _ _ _).2.1 A7 A7 A7 (bG b _ _ _).2.2.2⟩;simp only[List.setIfInBounds_toArray,List.set_cons_zero,OT]
  .refine⟨rfl,b.heap.size+1,b.heap.size,b.heap.size+1+1, ?_,kI (bG b _ _ _).2.1 (bG b _ _ _).1 (bG b _ _ _).2.2.1 A7 A7 A7 (bG b _ _ _).2.2.2⟩;simp only[List.setIfInBounds_toArray,List.set_cons_zero,OT]
  .refine⟨rfl,b.heap.size+1+1,b.heap.size+1,b.heap.size, ?_,kI (bG b _ _ _).2.2.1 (bG b _ _ _).2.1 (bG b _ _ _).1 A7 A7 A7 (bG b _ _ _).2.2.2⟩;simp only[List.setIfInBounds_toArray,List.set_cons_zero,OT]
  .refine⟨rfl,b.heap.size+1,b.heap.size+1+1,b.heap.size, ?_,kI (bG b _ _ _).2.1 (bG b _ _ _).2.2.1 (bG b _ _ _).1 A7 A7 A7 (bG b _ _ _).2.2.2⟩;simp only[List.setIfInBounds_toArray,List.set_cons_zero,OT]
  .refine⟨rfl,b.heap.size,b.heap.size+1,b.heap.size+1+1, ?_,kI (bG b _ _ _).1 (bG b _ _ _).2.1 (bG b _ _ _).2.2.1 A7 A7 A7 (bG b _ _ _).2.2.2⟩;simp only[List.setIfInBounds_toArray,List.set_cons_zero,OT]
  .refine⟨rfl,b.heap.size,b.heap.size+1+1,b.heap.size+1, ?_,kI (bG b _ _ _).1 (bG b _ _ _).2.2.1 (bG b _ _ _).2.1 A7 A7 A7 (bG b _ _ _).2.2.2⟩;simp only[List.setIfInBounds_toArray,List.set_cons_zero,OT]
 rintro f u ⟨Y,l,p,rfl,j2,f3,f4,n9,o0,o1,O⟩;clear n8;simp only[List.setIfInBounds_toArray,List.set_cons_zero,OT];have K3:=K2.trans O;have j3:b.heap.size<=u.heap.size:=O.size;have p9:=Kz (f0.o.kept O);have d1:Hid (pg u u.heap.size n (λc=>if c=true then l else p) (λ_ _=>.slice none 0 0) (λ_ _=>[])):=by
  refine⟨λc=>?_,by simpa using n9,λc r=>OO _ _ _ _,λc r c' p' _ x h=>(by cases h)⟩;cases c
  .exact f4
  .exact f3
 have j4:=Kz j2;have q0:=dP f3;have q1:=dP f4;have j5:Hid (gK (λx y=>y∈ol x) d 0 [] 0 0 (λ_=>[]) (λ_=>[])):=gK.start _ _ _;have j6:=O;clear f3 f4 j2 O;go_wp2
 go_loopw [24] (λx wr=>∃(k M:Nat) (g:Bool->Nat->Pw) (L:Bool->Nat->List Nat),k<=n/\x= .a (k:Int)/\M<=Ff k/\Hid (pg wr u.heap.size n (λc=>if c=true then l else p) g L)/\Hid (gK (λx y=>y∈ol x) d k [] 0 M (L true) (L false))/\Hid (ObM wr Y na R n l p)/\K_ b wr/\u.heap.size<=wr.heap.size) (λx _=>n-(intOf x).toNat)
 case atStart=>exact⟨0,0,_,_,NS _,rfl,NS _,d1,j5,j4,j6,NQ _⟩
 case round=>
  clear d1 j5 j4 j6;obtain⟨k,M,g,L,hk,rfl,j7,D,T,Q,E,Z⟩:=hrel;by_cases j8:k<n;rotate_left
  .obtain rfl:=b1.o;have o2:k=d.length:=A7;subst o2;obtain⟨q2,q3,q4,o3⟩:=Q.o;have b2:=n5.o.kept (j1.o.trans E);obtain⟨⟨_,x0⟩,g0⟩:=b2.row.at (i:=0) A7;obtain⟨⟨_,x1⟩,q5⟩:=b2.row.at (i:=1) A7;obtain⟨⟨_,x2⟩,g2⟩:=b2.row.at (i:=2) A7;have o4:=Kz b2;clear b2 o3;go_wp2_with fail
   have hR:=NU wr w.heap.size 0 [.slice na d.length R,.b l d.length d.length,.b p d.length d.length] (o4.o.row.there (o:=0) (m:=3) (NQ _));have kf:But (λf=>f=w.heap.size) wr (wr.setCells w.heap.size 0 [.slice na d.length R,.b l d.length d.length,.b p d.length d.length]):=But.set (S:=λf=>f=w.heap.size) (But.set (S:=λf=>f=w.heap.size) (But.set (S:=λf=>f=w.heap.size) (But.au (K_.refl wr)) (p:=⟨w.heap.size,0,none⟩) rfl _) (p:=⟨w.heap.size,1,none⟩) rfl _) (p:=⟨w.heap.size,2,none⟩) rfl _;have q6:=j1.o.size;refine X_ [.slice na d.length R,.b l d.length d.length,.b p d.length d.length] _ results40 rfl hR underlying93 rfl Tryz.Jb rfl ⟨na,R,d,l,p,M,L true,L false,rfl,f1.o,f2.o, ?_,T.o.whole,NT j7 (Ga i9),kf.kept (K2.trans E) (λf e=>by rw[e];exact NQ _)⟩;have o5:=kf.owns (ak j0.o E) (λf e F=>by have:=(j0.o.lt f e).1;rw[OC] at this;omega);obtain⟨a9,c9,X,a7⟩:=bv o5;simp only[OG,true_and] at X;rw[<-X.1] at a7;exact pg.read (D.o.but kf (λc e=>by cases c <;> simp at e <;> omega) (λc r f e F=>by have:=((D.o.own c r).lt f e).1;omega)) a7
  have b3:k<d.length:=by have:=b1.o;omega
  obtain⟨rb,ro,e1,o6,j9⟩:=(f0.o.kept E) k b3;subst e1;obtain⟨s,hs⟩:=ai (d.getD k ByteArray.empty);rw[<-hs] at j9;have f5:d[k]=s:=by rw[hs];simp[List.getD,b3]
  have k1:kp s:=(f2.o s).1 (by rw[<-f5];exact Oa b3);have k3:s.size<=maxLen:=by have:=n0 s k1;unfold maxLen;omega
  obtain⟨la,lc,k5,f6⟩:=HL.o.look (K2.trans E) k3;have k6:=Kz f5;have f7:=n1 s;obtain⟨d2,hQ⟩:=ai (ol s);rw[<-hQ] at k5 f6 f7;have⟨HQ,k7⟩:=aH hQ f6;have q7:(k:Int)<(n:Int):=A7;clear hs f5 k1 k3 hQ f6;go_wp2_with fail
  refine (xP wr la d2.length lc).mono ?_;rintro e w3 ⟨rfl,d3⟩;have O:K_ wr w3:=by rw[d3];exact ah _ _
  have b4:w3.cell? ⟨wr.heap.size,0,none⟩=some (.slice la d2.length lc):=by rw[d3];exact Xz wr #[.slice la d2.length lc] 26 0 _ rfl
  have k8:wr.heap.size<w3.heap.size:=by rw[d3];simp
  clear d3 k5 j9;go_wp2_with fail
  refine (xG w3 wr.heap.size la lc d2 A7 k8 b4 (k7.o.kept O)).mono ?_;rintro e w4 ⟨v4,C,rfl,f8,f9,k4⟩;obtain⟨o7,o8,rfl⟩:=ay f8;have q8:C.length<=1000000:=by rw[f9.1.length_eq];exact f7
  have⟨g1,U⟩:=aH f9 f8;have k9:=Kz (D.o.kept (O.trans k4));have l0:=Kz (Q.o.kept (O.trans k4));have l1:=Kz (T.o.enter C);have K4:=E.trans (O.trans k4);have l2:u.heap.size<=w4.heap.size:=NT Z (O.trans k4).size;have q9:b.heap.size<=w3.heap.size:=(E.trans O).size;clear f8 f9 b4 k8 D Q T O k4 E Z k7 f7 o6;go_wp2
  go_loopw [35] (λx wr=>∃(j M:Nat) (g:Bool->Nat->Pw) (L:Bool->Nat->List Nat),j<=C.length/\x= .a (j:Int)/\M<=Ff k+j/\Hid (pg wr u.heap.size n (λc=>if c=true then l else p) g L)/\Hid (gK (λx y=>y∈ol x) d k C j M (L true) (L false))/\Hid (ObM wr Y (some ⟨rb,ro,none⟩) R n l p)/\Hid (wr.ownsRow w3.heap.size 9 1 (.slice o7 C.length o8) C.length (C.map Value.string))/\K_ b wr/\u.heap.size<=wr.heap.size) (λx _=>C.length-(intOf x).toNat)
  case atStart=>exact⟨0,M,g,L,NS _,rfl,A7,k9,l1,l0,U,K4,l2⟩
  case round=>
   clear k9 l1 l0 U K4 l2 j7;obtain⟨j,M,g,L,hj,rfl,r0,D,T,Q,U,E,Z⟩:=hrel;by_cases d4:j<C.length;rotate_left
   .have o9:C.length<=j:=A7;have g3:Hid (gK (λx y=>y∈ol x) d (k+1) [] 0 M (L true) (L false)):=T.o.leave b3 o9 (λy=>by rw[g1.o.1.mem_iff,HQ.o,k6.o]);go_wp2
    go_roundw
    case rel=>exact⟨k+1,M,g,L,A7,C8,by rw[Gw];omega,D,g3,Q,E,Z⟩
    case measure=>simp[intOf];omega
   obtain⟨a9,c9,X,a7⟩:=bv U.o;simp only[OG,true_and] at X;rw[<-X.1] at a7;obtain⟨qb,qo,e1,r1,g4⟩:=a7 j d4;subst e1;obtain⟨s',g5⟩:=ai (C.getD j ByteArray.empty);rw[<-g5] at g4;have l3:C[j]=s':=by rw[g5];simp[List.getD,d4]
   have l4:=Kz l3;have p0:Hid (Calls prog 90 #[.slice (some ⟨rb,ro,none⟩) n R,.string s'] wr λe w'=>rX d s' e/\w'=wr):=by
    show Calls _ _ _ _ _;rw[b1.o];exact C_ wr _ R d s' (by have:=b1.o;omega) f1.o (f0.o.kept E)
   have r2:(j:Int)<(C.length:Int):=A7;clear X a7 g5 l3;go_wp2_with fail
   refine p0.o.mono ?_;rintro e w5 ⟨⟨q,bq,rfl,g6,g7⟩,l5⟩;rw[l5];clear l5 w5;cases bq
   .have p1:=Kz (g7 rfl);clear g6 g7 g4;have g3:Hid (gK (λx y=>y∈ol x) d k C (j+1) M (L true) (L false)):=T.o.skip d4 (by rw[l4.o];exact p1.o);go_wp2
    go_roundw
    case rel=>exact⟨j+1,M,g,L,A7,C8,A7,D,g3,Q,U,E,Z⟩
    case measure=>simp[intOf];omega
   obtain⟨l6,l7⟩:=g6 rfl;have l8:q<n:=by have:=b1.o;omega
   have p2:Hid (d[q]=s'):=by show d[q]=s';rw[<-l7];simp[List.getD,l6]
   have l9:Hid (gK (λx y=>y∈ol x) d k C (j+1) (M+1) (λr=>if r=k then L true k++ [q] else L true r) (λr=>if r=q then L false q++ [k] else L false r)):=T.o.put ⟨f1.o,λx y m0=>(f2.o x).2 (HL.o.sub x (λe=>by rw[e] at m0;cases m0))⟩ d4 g1.o.2 l6 (by rw[p2.o,l4.o]) b3 (λy hy=>by rw[g1.o.1.mem_iff,HQ.o] at hy;rw[k6.o];exact hy);have r3:=Ga (show k<=60 by omega);have r4:=(T.o.len k).1;have p3:=(T.o.len q).2;obtain⟨ic,m1,m2,m3,b4⟩:=info_parts Tryz.KS;clear g6 g7 l7 g4;obtain⟨d5,d6,g8⟩:=ay (D.o.own true k);have d7:=Kz g8;have rA:wr.cell? ⟨l,k,none⟩=some (.slice d5 (L true k).length d6):=by have h:=(D.o.row true).cell j8;rw[g8] at h;exact h
   have g9:Hid (∀w',K_ wr w'->w'.cell? ⟨Y,1,none⟩=some (.b l n n)/\w'.cell? ⟨l,k,none⟩=some (.slice d5 (L true k).length d6)):=λw' K=>⟨(K.cell Q.o.lt).trans Q.o.c1,(K.cell (dP (D.o.row true))).trans rA⟩
   clear g8 rA;go_upto_region 11 with fail
   refine bn 12 g9.o λG KD H=>?_
   refine ax 0 H ?_;refine ax 4 H ?_;refine ae 8 H ?_;refine aj 9 (λK A=>?_);go_simp
   have K5:K_ G (G.alloc (.cells #[.a (q:Int)] 3)):=ah _ _;have V:(G.alloc (.cells #[.a (q:Int)] 3)).cell? ⟨G.heap.size,0,none⟩=some (.a (q:Int)):=Xz G #[.a (q:Int)] 3 0 _ rfl;have I:=KD.trans K5;refine A.out _ _ (λ_=>g9.o _ I) ?_;clear A K H;have t:=Kz (D.o.kept I);have B:=Kz (Q.o.kept I);obtain⟨eb,b5⟩:=ai G.heap.size;rw[<-b5] at V⊢;generalize h0:G.alloc (.cells #[.a (q:Int)] 3)=w6 at V I t B⊢;clear h0 K5 b5 KD;have a2:=t.o.own true k;rw[d7.o] at a2;have b6:=Kz a2;have b7:u.heap.size<=w6.heap.size:=NT (Z) I.size;clear a2;try simp only[upP]
   refine aj 10 (λK A=>?_);refine step_append_lies _ rfl (.tmp 53) (.tmp 55) 27 rfl u.heap.size 3 ic _ 1 8 underlying27 m1 m2 m3 b4 rfl A8 (.slice d5 (L true k).length d6) (L true k).length ((L true k).map iP) rfl b6.o ⟨eb,0,none⟩ 1 1 [.a (q:Int)] rfl rfl (λj u z=>?_) (λu z=>?_) A8 D5 A7 b7 w6.heap.size rfl ?_
   .match j,z with
    | 0,z=>simp at z;subst z;rw[OI];exact V
    | j+1,z=>simp at z
   .simp at z;subst z;rfl
   intro gb gc J b8 W a3 h1;rw[<-d7.o] at W a3;obtain⟨b9,c0⟩:=t.o.put true k (x:=q) b8 W (λy e=>by simp only[Value.ownBlock,OE] at e;subst e;rcases a3 with h | h;exact .inl h;exact .inr (Ot h.symm));have a4:But (λf=>(g true k).ownBlock=some f) w6 J:=But.aI W (λf e=>e);have a5:J.rowIs l 27 n (g true):=dL (t.o.row true) (a4.block _ (dP (t.o.row true)) (λe=>aK (fU (t.o.row true)) (Yz (t.o.own true k) e) A8 rfl));have h2:=a5.frozen k;have c3:=a5.cell j8;have c4:J.cell? ⟨Y,1,none⟩=some (.b l n n):=(a4.cell B.o.lt (λe=>aK B.o.ty (Yz (t.o.own true k) e) A8 rfl)).trans B.o.c1;have a6:Hid (J.cell? ⟨Y,1,none⟩=some (.b l n n)/\J.cell? ⟨l,k,none⟩=some (.slice d5 (L true k).length d6)):=⟨c4,by rw[c3,d7.o]⟩;have⟨h3,d8⟩:=aH b9 c0;refine A.out _ _ (λ_=>a6.o) ?_;clear A K b9 c0 b8 W a3 a4 a5 c4 h1 V;have H:=a6.o;try simp only[upP]
   refine ae 11 H ?_;refine aj 12 (λK A=>?_);go_simp
   refine af A (λh=>Pg rfl h) ?_;clear A K H;refine aG ?_;have m4:=Kz (But.au (S:=λy=>(g true k).ownBlock=some y\/y= (if true=true then l else p)) I);have c5:=Kz (m4.out.trans d8.o);have d9:=Kz (B.o.but d8.o (λe=>by
    rcases e with e|e
    .exact aK B.o.ty (Yz (t.o.own true k) e) A8 rfl
    .exact aK B.o.ty (fU (t.o.row true)) A8 e))
   generalize c6:J.setCell ⟨(if true=true then l else p),k,none⟩ (.b gb ((L true k).length+1) gc)=a8 at h3 d8 d9 c5;have c7:J.setCell ⟨l,k,none⟩ (.b gb ((L true k).length+1) gc)=a8:=c6;rw[c7];clear c6 c7 c3 h2 a6 b6 b7 d7 g9 m4 d8 t B I;have h4:∃(g2:Bool->Nat->Pw) (N:Bool->Nat->List Nat),Hid (pg a8 u.heap.size n (λc=>if c=true then l else p) g2 N)/\Hid (N=λc r=>if c=true/\r=k then L true k++ [q] else L c r):=⟨_,_,h3,Kz rfl⟩;obtain⟨g2,N,a0,h5⟩:=h4;have r5:(N false q).length<=M:=by rw[h5.o];simpa using p3
   have e0:=Kz (c5.o.owns U.o (λf e F=>by
    rcases F with F|F
    .exact aK (Yz U.o e) (Yz (D.o.own true k) F) A8 rfl
    .exact aK (Yz U.o e) (fU (D.o.row true)) A8 F))
   have KA:K_ b a8:=c5.o.kept E (λf e=>by
    rcases e with e|e
    .exact NT j3 ((D.o.own true k).lt f e).1
    .rw[e];exact o0)
   have h6:u.heap.size<=a8.heap.size:=NT Z c5.o.size;have p4:=E;clear h3 c5 D Q U E Z p4;obtain⟨e2,e3,h7⟩:=ay (a0.o.own false q);have e4:=Kz h7;have rB:a8.cell? ⟨p,q,none⟩=some (.slice e2 (N false q).length e3):=by have h:=(a0.o.row false).cell l8;rw[h7] at h;exact h
   have h8:Hid (∀w',K_ a8 w'->w'.cell? ⟨Y,2,none⟩=some (.b p n n)/\w'.cell? ⟨p,q,none⟩=some (.slice e2 (N false q).length e3)):=λw' K=>⟨(K.cell d9.o.lt).trans d9.o.c2,(K.cell (dP (a0.o.row false))).trans rB⟩
   clear h7 rB;go_upto_region 12 with fail
   refine bn 12 h8.o λG KD H=>?_
   refine ax 0 H ?_;refine ax 4 H ?_;refine ae 8 H ?_;refine aj 9 (λK A=>?_);go_simp
   have K5:K_ G (G.alloc (.cells #[.a (k:Int)] 3)):=ah _ _;have V:(G.alloc (.cells #[.a (k:Int)] 3)).cell? ⟨G.heap.size,0,none⟩=some (.a (k:Int)):=Xz G #[.a (k:Int)] 3 0 _ rfl;have I:=KD.trans K5;refine A.out _ _ (λ_=>h8.o _ I) ?_;clear A K H;have t:=Kz (a0.o.kept I);have B:=Kz (d9.o.kept I);obtain⟨eb,b5⟩:=ai G.heap.size;rw[<-b5] at V⊢;generalize h0:G.alloc (.cells #[.a (k:Int)] 3)=w6 at V I t B⊢;clear h0 K5 b5 KD;have a2:=t.o.own false q;rw[e4.o] at a2;have b6:=Kz a2;have b7:u.heap.size<=w6.heap.size:=NT (h6) I.size;clear a2;try simp only[upP]
   refine aj 10 (λK A=>?_);refine step_append_lies _ rfl (.tmp 65) (.tmp 67) 27 rfl u.heap.size 3 ic _ 1 8 underlying27 m1 m2 m3 b4 rfl A8 (.slice e2 (N false q).length e3) (N false q).length ((N false q).map iP) rfl b6.o ⟨eb,0,none⟩ 1 1 [.a (k:Int)] rfl rfl (λj u z=>?_) (λu z=>?_) A8 D5 A7 b7 w6.heap.size rfl ?_
   .match j,z with
    | 0,z=>simp at z;subst z;rw[OI];exact V
    | j+1,z=>simp at z
   .simp at z;subst z;rfl
   intro gb gc J b8 W a3 h1;rw[<-e4.o] at W a3;obtain⟨b9,c0⟩:=t.o.put false q (x:=k) b8 W (λy e=>by simp only[Value.ownBlock,OE] at e;subst e;rcases a3 with h | h;exact .inl h;exact .inr (Ot h.symm));have a4:But (λf=>(g2 false q).ownBlock=some f) w6 J:=But.aI W (λf e=>e);have a5:J.rowIs p 27 n (g2 false):=dL (t.o.row false) (a4.block _ (dP (t.o.row false)) (λe=>aK (fU (t.o.row false)) (Yz (t.o.own false q) e) A8 rfl));have h2:=a5.frozen q;have c3:=a5.cell l8;have c4:J.cell? ⟨Y,2,none⟩=some (.b p n n):=(a4.cell B.o.lt (λe=>aK B.o.ty (Yz (t.o.own false q) e) A8 rfl)).trans B.o.c2;have a6:Hid (J.cell? ⟨Y,2,none⟩=some (.b p n n)/\J.cell? ⟨p,q,none⟩=some (.slice e2 (N false q).length e3)):=⟨c4,by rw[c3,e4.o]⟩;have⟨h9,e5⟩:=aH b9 c0;refine A.out _ _ (λ_=>a6.o) ?_;clear A K b9 c0 b8 W a3 a4 a5 c4 h1 V;have H:=a6.o;try simp only[upP]
   refine ae 11 H ?_;refine aj 12 (λK A=>?_);go_simp
   refine af A (λh=>Pg rfl h) ?_;clear A K H;refine aG ?_;have m5:=Kz (But.au (S:=λy=>(g2 false q).ownBlock=some y\/y= (if false=true then l else p)) I);have c8:=Kz (m5.out.trans e5.o);have m6:=Kz (B.o.but e5.o (λe=>by
    rcases e with e|e
    .exact aK B.o.ty (Yz (t.o.own false q) e) A8 rfl
    .exact aK B.o.ty (fU (t.o.row false)) A8 e))
   generalize c6:J.setCell ⟨(if false=true then l else p),q,none⟩ (.b gb ((N false q).length+1) gc)=e6 at h9 e5 m6 c8;have c7:J.setCell ⟨p,q,none⟩ (.b gb ((N false q).length+1) gc)=e6:=c6;rw[c7];clear c6 c7 c3 h2 a6 b6 b7 e4 h8 m5 e5 t B I;have p5:=Kz (c8.o.owns e0.o (λf e F=>by
    rcases F with F|F
    .exact aK (Yz e0.o e) (Yz (a0.o.own false q) F) A8 rfl
    .exact aK (Yz e0.o e) (fU (a0.o.row false)) A8 F))
   have KB:K_ b e6:=c8.o.kept KA (λf e=>by
    rcases e with e|e
    .exact NT j3 ((a0.o.own false q).lt f e).1
    .rw[e];exact o1)
   have p6:u.heap.size<=e6.heap.size:=NT h6 c8.o.size;have h4:∃(i0:Bool->Nat->Pw) (a1:Bool->Nat->List Nat),Hid (pg e6 u.heap.size n (λc=>if c=true then l else p) i0 a1)/\Hid (a1=λc r=>if c=false/\r=q then N false q++ [k] else N c r):=⟨_,_,h9,Kz rfl⟩;obtain⟨i0,a1,d1,m7⟩:=h4;have p7:Hid (gK (λx y=>y∈ol x) d k C (j+1) (M+1) (a1 true) (a1 false)):=by
    have e1:a1 true=λr=>if r=k then L true k++ [q] else L true r:=by funext r;rw[m7.o,h5.o];simp
    have F:a1 false=λr=>if r=q then L false q++ [k] else L false r:=by funext r;rw[m7.o,h5.o];simp
    show gK _ _ _ _ _ _ _ _;rw[e1,F];exact l9.o
   clear h9 c8 a0 e0 KA h6 l9;go_wp2
   go_roundw
   case rel=>exact⟨j+1,M+1,i0,a1,A7,C8,A7,d1,p7,m6,p5,KB,p6⟩
   case measure=>simp[intOf];omega
def LD(nm:List Ps)(ps:List Nat)(w w':Pv)(e:Ending):Prop:=
 ∃da:Pt,e= .returned (.slice da (ps.map (nameOf nm)).length (ps.map (nameOf nm)).length)/\bW w' w.heap.size w'.heap.size da (ps.map (nameOf nm))/\K_ w w'
theorem Dg(w:Pv)(na:Pt)(nc:Nat)(a:List Ps)(v1 v2:Pw)(_h1c:v1.oneCell'=true)(_h2c:v2.oneCell'=true)(C:Pt)(K:Nat)(ps:List Nat)(D:∀p∈ps,p<a.length)(b5:ps.length<=1000)(_hnl:a.length<=1000)(L:∀s∈a,s.size<=1048576)(M:Strs w na a)(N:oL w C ps):
  Calls prog 42 #[.agg #[.slice na a.length nc,v1,v2],.slice C ps.length K] w λe w'=>LD a ps w w' e:=by
 obtain⟨O,P,Q,R,S⟩:=aY Tryz.eP;obtain⟨b,l⟩:=ai (w.alloc (.cells #[.slice na a.length nc,v1,v2] 93));have m:K_ w b:=by rw[l];exact ah _ _
 have T:b.cell? ⟨w.heap.size,0,none⟩=some (.slice na a.length nc):=by rw[l];exact Xz w #[.slice na a.length nc,v1,v2] 93 0 _ rfl
 have U:w.heap.size<b.heap.size:=by rw[l];simp
 go_enter func42,ntmps42
 go_upto_region 1 with fail
 rw[<-l];clear l;go_wp2
 go_loopg [5,10] ps.length (λV W X wr=>∃(i:Nat) (c:Pt) (d:Nat),W= .slice c i d/\X= .a (i:Int)/\i+V=ps.length/\K_ b wr/\Hid (wr.ownsRow b.heap.size 9 1 (.slice c i d) i (((ps.take i).map (nameOf a)).map Value.string)))
 case atStart=>exact⟨0,none,0,rfl,rfl,A7,K_.refl _,OO _ _ _ _⟩
 case round=>
  obtain⟨i,c,d,rfl,rfl,hi,f,v⟩:=hrel;by_cases b6:(i:Int)<(ps.length:Int)
  .have n:i<ps.length:=A7;obtain⟨pb,po,Y,b7,Z⟩:=(N.kept (m.trans f)) i n;subst Y;obtain⟨p,h⟩:=ai (ps.getD i 0);rw[<-h] at Z;have a0:p<a.length:=D p (by rw[h];simp[List.getD,n]);obtain⟨sb,so,e2,b8,a1⟩:=(M.kept (m.trans f)) p a0;subst e2;obtain⟨s,j⟩:=ai (a.getD p ByteArray.empty);rw[<-j] at a1;have a2:Hid ((ps.take (i+1)).map (nameOf a)= (ps.take i).map (nameOf a)++ [s]):=by
    show _=_;rw[NY n,Pi,j,h];simp[nameOf,List.getD,n]
   have d0:=(f.cell U).trans T;have b9:(p:Int)<(a.length:Int):=A7;clear h j;have x:K_ wr (wr.alloc (.cells #[.string s] 9)):=ah _ _;have E:=Kz (ak v.o x);have F:=Kz (f.trans x);have a3:b.heap.size<=(wr.alloc (.cells #[.string s] 9)).heap.size:=F.out.size;have a4:Hid (∀q u,([.string s]:List Pw)[q]? =some u->(wr.alloc (.cells #[.string s] 9)).cell? ((⟨wr.heap.size,0,none⟩:Addr).add q)=some u):=λq u r=>by rw[OI];exact Xz wr #[.string s] 9 q u r
   have a5:Hid (∀u∈([.string s]:List Pw),u.oneCell'=true):=λu r=>by simp only[OL,OM,or_false] at r;subst r;rfl
   clear x;go_wp2_with (at_builtin;refine wpList_append_own _ rfl (.tmp 14) (.tmp 20) 26 rfl b.heap.size 9 O _ 1 16 underlying26 P Q R S rfl A8 (.slice c i d) i (((ps.take i).map (nameOf a)).map Value.string) rfl E.o ⟨wr.heap.size,0,none⟩ 1 1 [.string s] rfl rfl a4.o a5.o D5 A7 a3 ?_;intro v' w6 y G _;have KP:=aL F.out (NQ _) E.o G;have a6:=Kz y;obtain⟨a7,a8,rfl⟩:=ay y;clear y G)
   go_roundg (gk-1)
   case measure=>omega
   case rel=>exact⟨i+1,a7,a8,rfl,C8,A7,KP,Kz (by rw[a2.o,Pi];exact a6.o)⟩
  .have a9:i=ps.length:=A7;subst a9;rw[Ox] at v;obtain⟨c0,c1,z,A⟩:=bv v.o;simp only[OG] at z;rw[<-z.1] at A;have H:=Kz A;obtain⟨k,t⟩:=ai (ps.map (nameOf a));have I:ps.length=k.length:=by rw[t];simp
   rw[<-t] at H;have B:=Kz t;have b0:Hid (∀s∈k,s.size<=1048576):=λs j=>by
    rw[B.o] at j;obtain⟨p,h,rfl⟩:=Oq.1 j;have:=D p h;exact L _ (by rw[jv this];exact Oa this)
   have b1:Hid (Calls prog 23 #[.slice c ps.length d,.func (.func 24) #[] #[]] wr λe w'=>∃da,e= .returned (.slice da k.length k.length)/\bW w' wr.heap.size w'.heap.size da k/\K_ wr w'):=by
    show Calls _ _ _ _ _;rw[I];exact jC wr c d k A7 b0.o H.o
   clear z A t I;go_wp2_with fail
   refine b1.o.mono ?_;rintro e w5 ⟨b2,rfl,J,k5⟩;have b3:=Kz J;clear J;go_wp2
   go_ret
   refine⟨b2,by rw[B.o];rfl, ?_,(m.trans f).trans k5⟩;have b4:=b3.o;rw[<-B.o];have hz:=(m.trans f).size;exact b4.mono hz (NQ _)
theorem KR{W:bR}{σ:Env}(d:Ms σ){n:Ps}{f:Bool}{t:Ps}{a:Bool}(h:aP W σ n=if a=true then some ⟨f,t⟩ else none)(e:a=false->∃r,σ n=some r/\f=r.fail/\t=r.text):oM W σ n= ⟨n,a,f,t⟩:=by
 unfold oM;cases a
 .rw[h];obtain⟨r,b,i,j⟩:=e rfl;have k:r.over=false:=by
   unfold aP at h;cases c:W n with
   | none=>rw[c] at h;cases h
   | some A=>
    rw[c,b] at h;simp only at h;cases l:r.over
    .rfl
    .rw[l] at h;cases h
  obtain⟨m,p⟩:=d n r b k;rw[i,j,m,p]
  rfl
 .rw[h]
  rfl
section
variable {G : bV} {Kj : List Qq} {wz w w' : Pv} {bb : Nat} {a : Pt} {cap : Nat} {rd : Pt} {rn rc : Nat} {mb mx : Nat} {ts : List Zx} {d : Pt} {dc : Nat} {f : Ps -> Pw} {ws : Ps -> List Nat}
end
theorem BP(w:Pv)(a:Pt)(cap:Nat)(l:List Ps)(x:Ps)(t:l.length<=1048576)(p:Strs w a l):
  Calls prog 14 #[.slice a l.length cap,.string x] w λe w'=>Says e (x∈l)/\w'=w:=by
 go_enter func14,ntmps14
 go_wp2
 go_loopw [5] (λi wr=>∃k:Nat,k<=l.length/\i= .a (k:Int)/\Hid (x∉l.take k)/\wr=w) (λi _=>l.length-(intOf i).toNat)
 case atStart=>exact⟨0,NS _,rfl,Kz A9,rfl⟩
 case round=>
  obtain⟨k,v,rfl,j,rfl⟩:=hrel;by_cases c:k<l.length
  .obtain⟨b,o,q,z,r⟩:=p k c;subst q;obtain⟨y,d⟩:=ai (l.getD k ByteArray.empty);rw[<-d] at r;have m:l[k]=y:=by rw[d];simp[List.getD,c]
   have n:=Kz m;have A:(k:Int)<(l.length:Int):=A7;clear d m;cases f:(y.toList == x.toList)
   .go_wp2
    go_roundw
    case rel=>
     refine⟨k+1,A7,C8,Kz (λh=>?_),trivial⟩;rw[NY c,n.o] at h;rcases N_.1 h with h | h
     .exact j.o h
     .rw[NZ] at h;rw[h] at f;simp at f
    case measure=>simp[intOf];omega
   .go_wp2
    go_ret
    exact⟨Says.yes (by rw[<-Gi f,<-n.o];exact Oa c),rfl⟩
  .have B:¬((k:Int)<(l.length:Int)):=A7;have s:Hid (x∉l):=by have h:=j.o;rw[Oy A7] at h;exact h
   clear c;go_wp2
   go_ret
   exact⟨Says.no s.o,rfl⟩
