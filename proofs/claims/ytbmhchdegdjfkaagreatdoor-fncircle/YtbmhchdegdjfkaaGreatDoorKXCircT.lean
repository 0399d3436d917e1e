import Derived.Test.YtbmhchdegdjfkaaGreatDoorKVNeeds
import Derived.Test.YtbmhchdegdjfkaaGreatDoorKBEnd
set_option maxRecDepth 100000
set_option maxHeartbeats 25600000
namespace Go.Proofs.YtbmhchdegdjfkaaGreatDoor
open Go.RowKit Go.Proofs.Tryz
variable {n : Nat} {w : LP}
theorem jP{base base':Nat}{e:TypeId}{size:Nat}{v:LQ}{a:List LQ}(h:w.ownsRow base e size v n a)(b:base'<=base):w.ownsRow base' e size v n a:=by
 refine⟨h.1, ?_⟩;rcases h.2 with c|⟨g,d,f,i,j,k⟩
 ·exact .inl c
 ·exact .inr ⟨g,d,f,i,JS b j,k⟩
def Gb(w w':LP)(v v':LQ)(l r:List LK):Prop:=∀B,B<=w.heap.size->w.ownsRow B 9 1 v l.length (l.map Value.string)->w'.ownsRow B 9 1 v' r.length (r.map Value.string)
theorem rq(w:LP)(b o j:Nat)(l:List LK)(x:LK)(hl:l.length<=100000)(e5:l.length<=j)(ha:iI l)(Q:Strs w (some ⟨b,o,none⟩) l):
  Calls prog 39 #[.slice (some ⟨b,o,none⟩) l.length j,.string x] w fun e w'=>∃q s c' r,e= .returned (.slice (some ⟨q,s,none⟩) r.length c')/\r.length<=c'/\ER l x r/\Strs w' (some ⟨q,s,none⟩) r/\Gb w w' (.slice (some ⟨b,o,none⟩) l.length j) (.slice (some ⟨q,s,none⟩) r.length c') l r/\K_ w w':=by
 have HA:=Kz ha;clear ha;go_enter func39,ntmps39
 go_wp2
 go_loop [5] (fun p=>∃k:Nat,k<=l.length/\p= .int .i64 k/\Hid (∀v∈l.take k,aP v x)) (fun p=>l.length-(intOf p).toNat)
 case atStart=>exact⟨0,JR _,rfl,Kz fun v S=>by cases S⟩
 case round=>
  obtain⟨k,hk,rfl,T⟩:=hrel;by_cases R:k<l.length
  ·obtain⟨b1,o1,U,hb,hc⟩:=Q k R;cases U;obtain⟨v,S⟩:=aj (l.getD k ByteArray.empty);rw[<-S] at hc;have d9:l[k]=v:=by rw[S];simp[List.getD,R]
   have HY:=Kz d9;clear S d9;have f5:(k:Int)<(l.length:Int):=by omega
   cases e0:(Op.bytesLess v.toList x.toList)
   ·have a9:=Kz e0;cases e1:(v.toList == x.toList)
    ·have b0:=Kz e1;have V:Hid (∀z∈l.drop k,aP x z):=fun z i=>by
      have e3:aP x v:=by
       rcases dI x v with g|g|g
       ·exact g
       ·exact Lv g.symm (jV b0.o)
       ·unfold aP at g;rw[a9.o] at g;cases g
      rw[List.drop_eq_getElem_cons R,HY.o] at i;rcases Lb.1 i with rfl|i
      ·exact e3
      ·obtain⟨e6,hj,rfl⟩:=Kb i;rw[List.getElem_drop];have h2:=Ka.1 HA.o k (k+1+e6) R (by simp at hj;omega) (by omega);rw[HY.o] at h2;exact fF e3 h2
     have b2:Hid (x∉l):=fun h=>by
      rw[<-Lj k l] at h;rcases JZ.1 h with h|h
      ·exact aV x (T.o x h)
      ·exact aV x (V.o x h)
     obtain⟨a,c,m,b3⟩:∃a c,l=a++c/\k=a.length:=⟨l.take k,l.drop k,(Lj k l).symm,by simp;omega⟩;subst b3;have b4:Hid (ER l x (a++x :: c)):=by
      have U:l.take a.length=a:=by rw[m];simp
      have e2:l.drop a.length=c:=by rw[m];simp
      refine .inr ⟨b2.o,a.length,hk,by rw[U,e2],T.o,V.o⟩
     have b5:l.length=a.length+c.length:=by rw[m,KS]
     have b6:Hid (∀W,K_ w W->Strs W (some ⟨b,o,none⟩) a):=fun W K p X=>by
      obtain⟨q,s,y,A,B⟩:=(Q.kept K) p (by omega);refine⟨q,s,y,A, ?_⟩;rw[B,m];simp[List.getD,Lh X]
     have Y:Hid (∀W,K_ w W->Strs W (if j=a.length then (some ⟨b,o,none⟩:LM) else some ⟨b,o+a.length,none⟩) c):=fun W K p X=>by
      obtain⟨q,s,y,A,B⟩:=(Q.kept K) (a.length+p) (by omega);cases y;rw[Lu (by omega)];refine⟨b,o+a.length,rfl,A, ?_⟩;rw[Nat.add_assoc,B,m];simp[List.getD,Li]
     have Z:l.length-a.length=c.length:=by omega
     have e7:a.length<=j:=by omega
     have e8:a.length<=l.length:=by omega
     have e9:a.length<=100000:=by omega
     have f0:c.length<=100000:=by omega
     have b7:=Kz Z;obtain⟨C,D,E,F,G⟩:=aQ Tryz.bY;have a0:Hid ((w.alloc (.cells #[] 9)).ownsRow w.heap.size 9 1 (.slice (some ⟨w.heap.size,0,none⟩) 0 0) 0 (([]:List LK).map Value.string)):=KG w #[] 0 (JP _) (JR _) rfl;have b8:w.heap.size<=(w.alloc (.cells #[] 9)).heap.size:=by simp
     have a1:Hid (K_ w (w.alloc (.cells #[] 9))):=ag _ _;clear m b5 Z;go_upto_region 7 with (at_builtin;refine fI rfl (.tmp 34) (.tmp 37) 26 rfl w.heap.size 9 C _ 16 underlying26 D E F G rfl (.slice (some ⟨w.heap.size,0,none⟩) 0 0) 0 (([]:List LK).map Value.string) rfl a0.o (some ⟨b,o,none⟩) j a rfl (b6.o _ a1.o) (by unfold maxLen;omega) (by omega) b8 ?_;intro v1 w1 t a2 b9;rw[KH] at t;have c0:=Kz t;have c1:=aG a1.o (JP _) a0.o a2;obtain⟨c2,c3,rfl⟩:=ax t;clear t a2 b9)
     refine Qx.region (by kernel_rfl) (fun _=>True) 8 trivial (fun n=>?_);have KD:K_ w1 w1.drew:=aL w1;generalize c4:w1.drew=f at KD⊢;clear c4;refine af 0 n ?_;refine af 1 n ?_;refine af 4 n ?_;refine af 5 n ?_;refine af 6 n ?_;generalize hgd:(if j=a.length then (some ⟨b,o,none⟩:LM) else some ⟨b,o+a.length,none⟩)=c5 at Y⊢;clear hgd;refine ah 2 (fun K d=>?_);go_simp
     have K5:K_ f (f.alloc (.cells #[.string x] 9)):=ag _ _;have H:Hid (Strs (f.alloc (.cells #[.string x] 9)) (some ⟨f.heap.size,0,none⟩) [x]):=fun c6 hq=>by
      obtain rfl:c6=0:=by simpa using hq
      exact⟨f.heap.size,0,rfl,by simp,Xz f #[.string x] 9 0 _ rfl⟩
     refine d.out _ _ (fun _=>trivial) ?_;clear d K n;have I:=KD.trans K5;have J:=Kz (ai c0.o I);obtain⟨eb,a3⟩:=aj f.heap.size;rw[<-a3] at H⊢;generalize c7:f.alloc (.cells #[.string x] 9)=w5 at H I J⊢;clear c7 K5 a3;have a4:=c1.trans I;have c8:=a4.size;try simp only[upP]
     refine ak 3 (fun K d=>?_);refine fB (.tmp 39) (.tmp 41) 26 rfl w.heap.size 9 C _ 16 underlying26 D E F G rfl (.slice c2 a.length c3) a.length (([]:List LK).map Value.string++a.map Value.string) rfl J.o (some ⟨eb,0,none⟩) 1 [x] rfl H.o (by unfold maxLen;simp;omega) (by simp;omega) c8 ?_;intro v6 w6 L a5 c9;have a6:=Kz L;have M:=aG a4 (JP _) J.o a5;obtain⟨d0,d1,rfl⟩:=ax L;have d2:=M.size;refine ae d (fun _=>trivial) ?_;clear d K L a5 c9;refine ak 7 (fun K d=>?_);refine fB (.tmp 42) (.tmp 45) 26 rfl w.heap.size 9 C _ 16 underlying26 D E F G rfl (.slice d0 (a.length+ [x].length) d1) (a.length+ [x].length) ((([]:List LK).map Value.string++a.map Value.string)++ [x].map Value.string) rfl a6.o c5 (j-a.length) c (by rw[<-b7.o];rfl) (Y.o _ M) (by unfold maxLen;simp;omega) (by simp;omega) d2 ?_;intro v7 w7 a7 a8 d3;have d4:=Kz a7;have d5:=aG M (JP _) a6.o a8;refine ae d (fun _=>trivial) ?_;clear d K a7 a8 d3;refine ah 8 (fun K d=>?_);go_simp
     refine ae d (fun h=>Lv rfl h) ?_;clear d K;refine aB ?_;go_wp2
     go_ret
     have d6:(a++x :: c).length=a.length+ [x].length+c.length:=by simp;omega
     have N:w7.ownsRow w.heap.size 9 1 v7 (a++x :: c).length ((a++x :: c).map Value.string):=by
      have h:=d4.o;rw[d6];have e:(a++x :: c).map Value.string= ((([]:List LK).map Value.string++a.map Value.string)++ [x].map Value.string)++c.map Value.string:=by simp
      rw[e];exact h
     rcases N.2 with⟨_,h0⟩|⟨g,d7,f1,O,_,_,d8,_,_,_⟩
     ·simp at h0
     ·obtain⟨f2,f3,P,h9⟩:=aX N;rw[O] at P;simp only[KX,true_and] at P;rw[<-P.1] at h9;exact⟨g,0,d7,_,by rw[O];rfl,d8,b4.o,h9,fun f4 hB _=>by rw[<-O];exact jP N hB,d5⟩
    ·have b0:=Kz (eF e1);go_wp2
     go_ret
     exact⟨b,o,j,l,rfl,e5,.inl ⟨by rw[<-b0.o,<-HY.o];exact J_ R,rfl⟩,Q,fun _ _ h=>h,K_.refl _⟩
   ·have a9:=Kz e0;go_wp2
    go_round
    case rel=>
     refine⟨k+1,by omega,by go_num,Kz fun z i=>?_⟩;rw[JX R] at i;rcases JZ.1 i with i | i
     ·exact T.o z i
     ·rw[JY,HY.o] at i;rw[i];exact a9.o
    case measure=>simp[intOf];omega
  ·have e4:k=l.length:=by omega
   have V:Hid (∀z∈l.drop k,aP x z):=fun z i=>by rw[e4,List.drop_length] at i;cases i
   have b2:Hid (x∉l):=fun h=>by
    rw[<-Lj k l] at h;rcases JZ.1 h with h|h
    ·exact aV x (T.o x h)
    ·exact aV x (V.o x h)
   obtain⟨a,c,m,b3⟩:∃a c,l=a++c/\k=a.length:=⟨l.take k,l.drop k,(Lj k l).symm,by simp;omega⟩;subst b3;have b4:Hid (ER l x (a++x :: c)):=by
    have U:l.take a.length=a:=by rw[m];simp
    have e2:l.drop a.length=c:=by rw[m];simp
    refine .inr ⟨b2.o,a.length,hk,by rw[U,e2],T.o,V.o⟩
   have b5:l.length=a.length+c.length:=by rw[m,KS]
   have b6:Hid (∀W,K_ w W->Strs W (some ⟨b,o,none⟩) a):=fun W K p X=>by
    obtain⟨q,s,y,A,B⟩:=(Q.kept K) p (by omega);refine⟨q,s,y,A, ?_⟩;rw[B,m];simp[List.getD,Lh X]
   have Y:Hid (∀W,K_ w W->Strs W (if j=a.length then (some ⟨b,o,none⟩:LM) else some ⟨b,o+a.length,none⟩) c):=fun W K p X=>by
    obtain⟨q,s,y,A,B⟩:=(Q.kept K) (a.length+p) (by omega);cases y;rw[Lu (by omega)];refine⟨b,o+a.length,rfl,A, ?_⟩;rw[Nat.add_assoc,B,m];simp[List.getD,Li]
   have Z:l.length-a.length=c.length:=by omega
   have e7:a.length<=j:=by omega
   have e8:a.length<=l.length:=by omega
   have e9:a.length<=100000:=by omega
   have f0:c.length<=100000:=by omega
   have b7:=Kz Z;obtain⟨C,D,E,F,G⟩:=aQ Tryz.bY;have a0:Hid ((w.alloc (.cells #[] 9)).ownsRow w.heap.size 9 1 (.slice (some ⟨w.heap.size,0,none⟩) 0 0) 0 (([]:List LK).map Value.string)):=KG w #[] 0 (JP _) (JR _) rfl;have b8:w.heap.size<=(w.alloc (.cells #[] 9)).heap.size:=by simp
   have a1:Hid (K_ w (w.alloc (.cells #[] 9))):=ag _ _;clear m b5 Z e4;go_upto_region 7 with (at_builtin;refine fI rfl (.tmp 34) (.tmp 37) 26 rfl w.heap.size 9 C _ 16 underlying26 D E F G rfl (.slice (some ⟨w.heap.size,0,none⟩) 0 0) 0 (([]:List LK).map Value.string) rfl a0.o (some ⟨b,o,none⟩) j a rfl (b6.o _ a1.o) (by unfold maxLen;omega) (by omega) b8 ?_;intro v1 w1 t a2 b9;rw[KH] at t;have c0:=Kz t;have c1:=aG a1.o (JP _) a0.o a2;obtain⟨c2,c3,rfl⟩:=ax t;clear t a2 b9)
   refine Qx.region (by kernel_rfl) (fun _=>True) 8 trivial (fun n=>?_);have KD:K_ w1 w1.drew:=aL w1;generalize c4:w1.drew=f at KD⊢;clear c4;refine af 0 n ?_;refine af 1 n ?_;refine af 4 n ?_;refine af 5 n ?_;refine af 6 n ?_;generalize hgd:(if j=a.length then (some ⟨b,o,none⟩:LM) else some ⟨b,o+a.length,none⟩)=c5 at Y⊢;clear hgd;refine ah 2 (fun K d=>?_);go_simp
   have K5:K_ f (f.alloc (.cells #[.string x] 9)):=ag _ _;have H:Hid (Strs (f.alloc (.cells #[.string x] 9)) (some ⟨f.heap.size,0,none⟩) [x]):=fun c6 hq=>by
    obtain rfl:c6=0:=by simpa using hq
    exact⟨f.heap.size,0,rfl,by simp,Xz f #[.string x] 9 0 _ rfl⟩
   refine d.out _ _ (fun _=>trivial) ?_;clear d K n;have I:=KD.trans K5;have J:=Kz (ai c0.o I);obtain⟨eb,a3⟩:=aj f.heap.size;rw[<-a3] at H⊢;generalize c7:f.alloc (.cells #[.string x] 9)=w5 at H I J⊢;clear c7 K5 a3;have a4:=c1.trans I;have c8:=a4.size;try simp only[upP]
   refine ak 3 (fun K d=>?_);refine fB (.tmp 39) (.tmp 41) 26 rfl w.heap.size 9 C _ 16 underlying26 D E F G rfl (.slice c2 a.length c3) a.length (([]:List LK).map Value.string++a.map Value.string) rfl J.o (some ⟨eb,0,none⟩) 1 [x] rfl H.o (by unfold maxLen;simp;omega) (by simp;omega) c8 ?_;intro v6 w6 L a5 c9;have a6:=Kz L;have M:=aG a4 (JP _) J.o a5;obtain⟨d0,d1,rfl⟩:=ax L;have d2:=M.size;refine ae d (fun _=>trivial) ?_;clear d K L a5 c9;refine ak 7 (fun K d=>?_);refine fB (.tmp 42) (.tmp 45) 26 rfl w.heap.size 9 C _ 16 underlying26 D E F G rfl (.slice d0 (a.length+ [x].length) d1) (a.length+ [x].length) ((([]:List LK).map Value.string++a.map Value.string)++ [x].map Value.string) rfl a6.o c5 (j-a.length) c (by rw[<-b7.o];rfl) (Y.o _ M) (by unfold maxLen;simp;omega) (by simp;omega) d2 ?_;intro v7 w7 a7 a8 d3;have d4:=Kz a7;have d5:=aG M (JP _) a6.o a8;refine ae d (fun _=>trivial) ?_;clear d K a7 a8 d3;refine ah 8 (fun K d=>?_);go_simp
   refine ae d (fun h=>Lv rfl h) ?_;clear d K;refine aB ?_;go_wp2
   go_ret
   have d6:(a++x :: c).length=a.length+ [x].length+c.length:=by simp;omega
   have N:w7.ownsRow w.heap.size 9 1 v7 (a++x :: c).length ((a++x :: c).map Value.string):=by
    have h:=d4.o;rw[d6];have e:(a++x :: c).map Value.string= ((([]:List LK).map Value.string++a.map Value.string)++ [x].map Value.string)++c.map Value.string:=by simp
    rw[e];exact h
   rcases N.2 with⟨_,h0⟩|⟨g,d7,f1,O,_,_,d8,_,_,_⟩
   ·simp at h0
   ·obtain⟨f2,f3,P,h9⟩:=aX N;rw[O] at P;simp only[KX,true_and] at P;rw[<-P.1] at h9;exact⟨g,0,d7,_,by rw[O];rfl,d8,b4.o,h9,fun f4 hB _=>by rw[<-O];exact jP N hB,d5⟩
theorem Ey(w:LP)(b o f:Nat)(l:List LK)(x:LK)(h:l.length<=100000)(i:l.length<=f)(j:iI l)(k:Strs w (some ⟨b,o,none⟩) l):
  Calls prog 39 #[.slice (some ⟨b,o,none⟩) l.length f,.string x] w fun e w'=>∃a c d r,e= .returned (.slice (some ⟨a,c,none⟩) r.length d)/\r.length<=d/\ER l x r/\Strs w' (some ⟨a,c,none⟩) r/\K_ w w':=
 (rq w b o f l x h i j k).mono fun _e _w' ⟨a,c,d,r,m,n,p,q,_,s⟩=>⟨a,c,d,r,m,n,p,q,s⟩
theorem nu.nil{W:fQ}{σ:Env}{n:LK}(h:∀s,¬aS W σ n s):nu W σ n []:=⟨List.Pairwise.nil,fun s=>⟨fun e=>(by cases e),fun e=>(h s e).elim⟩⟩
def Fj(Kq:List Qq)(sl:List Qz)(name:LK)(w w':LP)(e:Ending):Prop:=
 ∃(b o c:Nat) (ns:List LK),e= .returned (.slice (some ⟨b,o,none⟩) ns.length c)/\ns.length<=c/\Strs w' (some ⟨b,o,none⟩) ns/\nu (Q_ Kq) (Qj sl) name ns/\w'.ownsRow w.heap.size 9 1 (.slice (some ⟨b,o,none⟩) ns.length c) ns.length (ns.map Value.string)
def Ex(Kq:List Qq)(sl:List Qz)(name:LK)(w':LP)(e:Ending):Prop:=
 ∃(b o c:Nat) (ns:List LK),e= .returned (.slice (some ⟨b,o,none⟩) ns.length c)/\ns.length<=c/\Strs w' (some ⟨b,o,none⟩) ns/\nu (Q_ Kq) (Qj sl) name ns
theorem sI(w:LP)(a:LM)(A:Nat)(m:List Qq)(B:LM)(C D:Nat)(d:LM)(v:Nat)(j:List Qz)(Z:LK)(f5:m.length<=1048576)(d3:j.length<=1048576)(f6:bT (Q_ m))(hg:dB m j)(hN:bN w a m)(hS:bD w d j):
  Calls prog 65 #[.agg #[.slice a m.length A],.agg #[.slice B C D,.slice d j.length v],.string Z] w fun e w'=>Fj m j Z w w' e/\K_ w w':=by
 obtain⟨l,L⟩:=aj ((w.alloc (.cells #[.slice a m.length A] 25)).alloc (.cells #[.slice B C D,.slice d j.length v] 29));have kB:K_ w l:=by rw[L];exact (ag _ _).alloc _
 have f7:l.heap.size=w.heap.size+2:=by rw[L];simp
 have O:l.cell? ⟨w.heap.size,0,none⟩=some (.slice a m.length A):=by rw[L,K_.cell (w:=w.alloc (.cells #[.slice a m.length A] 25)) (ag _ _) (by simp)];exact Xz w _ _ 0 _ rfl
 have P:l.cell? ⟨w.heap.size+1,0,none⟩=some (.slice B C D):=by have:=Xz (w.alloc (.cells #[.slice a m.length A] 25)) #[.slice B C D,.slice d j.length v] 29 0 _ rfl;rw[KR] at this;rw[L];exact this
 have Q:l.cell? ⟨w.heap.size+1,1,none⟩=some (.slice d j.length v):=by have:=Xz (w.alloc (.cells #[.slice a m.length A] 25)) #[.slice B C D,.slice d j.length v] 29 1 _ rfl;rw[KR] at this;rw[L];exact this
 have z0:w.heap.size<l.heap.size:=by omega
 have z1:w.heap.size+1<l.heap.size:=by omega
 have G:Hid (∀w',K_ l w'->w'.cell? ⟨w.heap.size,0,none⟩=some (.slice a m.length A)/\w'.cell? ⟨w.heap.size+1,0,none⟩=some (.slice B C D)/\w'.cell? ⟨w.heap.size+1,1,none⟩=some (.slice d j.length v)/\w.heap.size<w'.heap.size/\w.heap.size+1<w'.heap.size):=fun w' K=>⟨(K.cell z0).trans O,(K.cell z1).trans P,(K.cell z1).trans Q,JQ z0 K.size,JQ z1 K.size⟩
 have kE:K_ l (l.alloc (.cells #[] 9)):=ag _ _;have b3:Hid (∀u,K_ (l.alloc (.cells #[] 9)) u->u.ownsRow w.heap.size 9 1 (.slice (some ⟨l.heap.size,0,none⟩) 0 0) 0 (([]:List LK).map Value.string)):=fun u k=>ai (jP (KG l #[] 0 (JP _) (JR _) rfl) kB.size) k
 have⟨x,f8⟩:=aH kB hg;clear kB f7 O P Q hg;go_enter func65,ntmps65
 go_upto_region 1 with fail
 rw[<-L];clear L;go_upto_region 2 with fail
 obtain⟨WE,d4⟩:=aj (l.alloc (.cells #[] 9));rw[<-d4] at kE b3⊢;clear d4;obtain⟨O,P,Q,y0,y1⟩:=G.o _ kE;go_wp2_with fail
 refine (fZ WE B C D d v j Z d3 (hS.kept (x.o.trans kE))).mono ?_;rintro e w1 ⟨⟨i4,rfl,hp⟩,k1⟩;have E:=kE.trans k1;have a6:=Kz (b3.o _ k1);clear O P Q y0 y1 k1 kE b3;obtain⟨O,P,Q,y0,y1⟩:=G.o _ E;rcases hp with⟨k,hk,rfl,R,b5⟩|⟨rfl,R⟩;rotate_left
 ·have S:=Kz R;clear R;go_wp2
  go_ret
  exact⟨⟨l.heap.size,0,0,[],rfl,JP _,(fun i M=>by cases M),(nu.nil fun s h=>by obtain⟨r,_,T,_⟩:=h;rw[S.o] at T;cases T),a6.o⟩,x.o.trans E⟩
 obtain⟨r,T⟩:=aj (j.getD k Qz.zero);rw[<-T] at R b5;obtain⟨rb,ro,xa,xc,f9,g0,a0,_,_⟩:=(hS.kept (x.o.trans E)) k hk;rw[<-T] at a0;subst f9;have N:=a0 1 _ rfl;have t4:=a0 4 _ rfl;have t5:=a0 5 _ rfl;have i5:(k:Int)<(j.length:Int):=by omega
 have S:=Kz R;clear R a0 T;by_cases U:r.over=true\/r.Zj=0
 ·have b6:=Kz U;have d5:Hid (nu (Q_ m) (Qj j) Z []):=nu.nil fun s h=>by
   obtain⟨r',_,F,b,f,_⟩:=h;rw[S.o] at F;cases F;rcases b6.o with y|y
   ·rw[b] at y;cases y
   ·exact f y
  have a1:r.over=true\/(r.over=false/\r.Zj=0):=by
   rcases U with h|h
   ·exact .inl h
   ·cases b:r.over
    ·exact .inr ⟨rfl,h⟩
    ·exact .inl rfl
  clear U;rcases a1 with h|⟨h,f⟩
  ·rw[h] at N;go_wp2
   go_ret
   exact⟨⟨l.heap.size,0,0,[],rfl,JP _,(fun i M=>by cases M),d5.o,a6.o⟩,x.o.trans E⟩
  ·rw[h] at N;rw[f] at t5;go_wp2
   go_ret
   exact⟨⟨l.heap.size,0,0,[],rfl,JP _,(fun i M=>by cases M),d5.o,a6.o⟩,x.o.trans E⟩
 have ho:r.over=false:=by
  cases b:r.over
  ·rfl
  ·exact Lv (.inl b) U
 have hv:r.Zj≠0:=fun e=>U (.inr e)
 have g1:(r.Zj == 0)=false:=by simpa using hv
 obtain⟨i6,V,d6,a7⟩:=(f8.o.good r (bF S.o).1).act;rw[b5] at V;obtain⟨a2,hj,d7,d8,rfl⟩:=gP V;obtain⟨W,hy⟩:=aj (m.getD a2 Qq.zero);rw[<-hy] at V a7;dsimp only at a7;obtain⟨nb,nq,cs,e2,g2,a1,na,nc,rfl,b7⟩:=hN a2 hj;subst e2;rw[<-hy] at a1 b7;obtain⟨H,b8⟩:∃H:Nat,r.at'= (H:Int):=⟨r.at'.toNat,by omega⟩;have g3:H<W.steps.length:=by omega
 obtain⟨tb,tq,i7,e3,g4,b9,aa,ca,ac,cc,rfl,c0,_,_⟩:=b7 H g3;subst e3;obtain⟨s,hs⟩:=aj (W.steps.getD H Xj.zero);rw[<-hs] at b9 c0;have n2:=a1 2 _ rfl;have m0:=b9 0 _ rfl;rw[La] at m0;have c1:Hid (stepOf ⟨W.cost,W.steps⟩ r.at'=s):=by show _=_;unfold stepOf;rw[b8,hs];rfl
 have i8:s.asks.length<=5:=by have h:=(iV (f6 _ _ V).1 d6 a7).1;rw[c1.o] at h;exact h
 have⟨g5,g6,c2,g7,b6⟩:=jb d7 d8 V hv ho;have i9:(a2:Int)<(m.length:Int):=by omega
 have j0:(H:Int)<(W.steps.length:Int):=by omega
 rw[b8] at t4;rw[ho] at N;have KN:=x.o.trans E;have a8:Hid (∀w',K_ w1 w'->w'.cell? ⟨w.heap.size,0,none⟩=some (.slice (some ⟨nb,nq,none⟩) m.length A)/\w'.cell? ⟨w.heap.size+1,1,none⟩=some (.slice (some ⟨rb,ro,none⟩) j.length v)/\w'.cell? ⟨rb,ro+k*7+4,none⟩=some (.int .i64 (H:Int))/\w'.cell? ⟨nb,nq+a2*3+2,none⟩=some (.slice (some ⟨tb,tq,none⟩) W.steps.length nc)/\w'.cell? ⟨tb,tq+H*8,none⟩=some (.slice aa s.asks.length ca)):=fun w' K=>⟨(G.o w' (E.trans K)).1,(G.o w' (E.trans K)).2.2.1,(K.cell g0).trans t4,((KN.trans K).cell g2).trans n2,((KN.trans K).cell g4).trans m0⟩
 have g8:=Kz (hN.kept KN);have g9:=Kz c0;clear U V hy a1 b7 b9 c0 hs b8 d6 a7 hv ho d7 d8 n2 m0 b5;go_upto_region 5 with fail
 clear N t4 t5 g1 O P Q y0 y1;refine bf 18 a8.o fun wd KD n=>?_
 refine au 0 n ?_;refine au 9 n ?_;refine af 13 n ?_;refine af 14 n ?_;refine ak 4 (fun K q=>?_);go_simp
 go_at_call 44
 refine (gK wd (some ⟨nb,nq,none⟩) A m Z f5 (g8.o.kept KD)).mono ?_;rintro e w2 ⟨⟨a3,rfl,hq⟩,k2⟩;have K2:=KD.trans k2;obtain rfl:a3= (a2:Int):=by
  rcases hq with⟨k',_,e',_,b,f⟩|⟨_,b⟩
  ·rw[e',mi g5.o g6.o b f]
  ·rw[c2.o] at b;cases b
 clear hq;dsimp only;refine ae q (fun _=>a8.o _ K2) ?_;clear q K;clear n;have n:=a8.o _ K2;refine au 5 n ?_;refine af 15 n ?_;refine af 16 n ?_;refine af 17 n ?_;refine ah 18 (fun K q=>?_);go_simp
 refine ae q (fun h=>Lv rfl h) ?_;clear q K;refine aB ?_;clear n;have h0:=E.trans K2;have h1:Hid (∀c3,K_ w2 c3->Strs c3 aa s.asks):=fun c3 K=>g9.o.kept (KN.trans (K2.trans K))
 have d9:Hid (Strs w2 (some ⟨l.heap.size,0,none⟩) []):=fun i M=>by cases M
 go_wp2
 go_loopg [7,10] s.asks.length (fun gg x7 h2 wr=>∃(i I o c:Nat) (p:List LK),h2= .int .i64 (i:Int)/\i+gg=s.asks.length/\x7= .slice (some ⟨I,o,none⟩) p.length c/\p.length<=c/\p.length<=i/\Hid (iI p)/\Hid (∀z,z∈p↔z∈s.asks.take i/\II (Qj j) z)/\Hid (Strs wr (some ⟨I,o,none⟩) p)/\Hid (wr.ownsRow w.heap.size 9 1 (.slice (some ⟨I,o,none⟩) p.length c) p.length (p.map Value.string))/\K_ w2 wr)
 case atStart=>exact⟨0,l.heap.size,0,0,[],rfl,by omega,rfl,JP _,JP _,Kz List.Pairwise.nil,Kz (fun z=>by simp),d9,Kz (ai a6.o K2),K_.refl _⟩
 case round=>
  clear d9 a8;obtain⟨i,I,o,c,p,rfl,j1,rfl,a9,j2,a4,b0,e0,e1,Kw⟩:=hrel;have J:=h0.trans Kw;by_cases c5:i<s.asks.length
  ·obtain⟨ab,ao,rfl,e4,b1⟩:=(h1.o wr Kw) i c5;obtain⟨a5,hx⟩:=aj (s.asks.getD i ByteArray.empty);rw[<-hx] at b1;have e5:s.asks[i]=a5:=by rw[hx];simp[List.getD,c5]
   have h3:=Kz e5;have j3:(i:Int)<(s.asks.length:Int):=by omega
   have c6:Hid (∀w',K_ wr w'->w'.cell? ⟨w.heap.size+1,0,none⟩=some (.slice B C D)/\w'.cell? ⟨w.heap.size+1,1,none⟩=some (.slice (some ⟨rb,ro,none⟩) j.length v)/\w'.cell? ⟨ab,ao+i,none⟩=some (.string a5)):=fun w' K=>⟨(G.o w' (J.trans K)).2.1,(G.o w' (J.trans K)).2.2.1,(K.cell e4).trans b1⟩
   obtain⟨_,e6,e7,y0,y1⟩:=G.o wr J;clear hx e5;go_upto_region 9 with fail
   clear e6 e7 b1;refine bf 6 c6.o fun wd KD n=>?_
   refine au 0 n ?_;refine af 4 n ?_;refine ak 5 (fun K q=>?_);go_simp
   go_at_call 43
   refine (fZ wd B C D (some ⟨rb,ro,none⟩) v j a5 d3 (hS.kept (x.o.trans (J.trans KD)))).mono ?_;rintro e w3 ⟨⟨a3,rfl,hq⟩,k3⟩;have t:=KD.trans k3;refine ae q (fun _=>c6.o _ t) ?_;clear q K n;refine ah 6 (fun K q=>?_);go_simp
   refine ae q (fun h=>Lv rfl h) ?_;clear q K;refine aB ?_;obtain⟨j4,e6,e7,y0,y1⟩:=G.o w3 (J.trans t);have b1:=(c6.o _ t).2.2;have j5:ab<w3.heap.size:=JQ e4 t.size;have c7:=Kz (e0.o.kept t);have c8:=Kz (ai e1.o t);have h5:Hid (w.heap.size<=w3.heap.size):=(x.o.trans (J.trans t)).size;have e8:∀z,z∈s.asks.take (i+1)↔z∈s.asks.take i\/z=a5:=fun z=>by rw[JX c5,h3.o];simp
   have c9:=Kz e8;clear e8 k3;rcases hq with⟨k',h6,rfl,X,_⟩|⟨rfl,X⟩
   ·obtain⟨r',F⟩:=aj (j.getD k' Qz.zero);rw[<-F] at X;obtain⟨j6,j7,j8,j9,h7,k0,d0,_,_⟩:=(hS.kept (x.o.trans (J.trans t))) k' h6;cases h7;rw[<-F] at d0;have N:=d0 1 _ rfl;have k5:(k':Int)<(j.length:Int):=by omega
    have k6:¬((k':Int)<0):=by omega
    have b2:=Kz X;clear X d0 F;cases Y:r'.over
    ·rw[Y] at N;have d1:=Kz Y;clear Y;go_wp2_with fail
     refine (rq w3 I o c p a5 (by omega) a9 a4.o c7.o).mono ?_;rintro e w4 ⟨b4,o4,c4,r4,rfl,h8,d2,e9,f0,k4⟩;have h9:=Kz (f0 _ h5.o c8.o);obtain⟨f1,f2⟩:=d2.asc a4.o;have k7:r4.length<=p.length+1:=by
      rcases d2 with⟨_,rfl⟩|⟨_,a3,hq,rfl,_,_⟩
      ·omega
      ·simp;omega
     have⟨i0,i1,i2⟩:=dK f1 f2 e9;have K4:=Kw.trans (t.trans k4);clear f1 f2 e9 d2 f0;go_wp2
     go_roundg (gk-1)
     case measure=>omega
     case rel=>exact⟨i+1,b4,o4,c4,r4,by go_num,by omega,rfl,h8,by omega,i0,Kz (fun z=>by
      rw[i1.o,b0.o,c9.o];constructor
      ·rintro (⟨b,f⟩|rfl)
       ·exact⟨.inl b,f⟩
       ·exact⟨.inr rfl,_,b2.o,d1.o⟩
      ·rintro⟨b|rfl,f⟩
       ·exact .inl ⟨b,f⟩
       ·exact .inr rfl),i2,h9,K4⟩
    ·rw[Y] at N;have d1:=Kz Y;clear Y;go_wp2
     go_roundg (gk-1)
     case measure=>omega
     case rel=>exact⟨i+1,I,o,c,p,by go_num,by omega,rfl,a9,by omega,a4,Kz (fun z=>by
      rw[b0.o,c9.o];constructor
      ·rintro⟨b,f⟩;exact⟨.inl b,f⟩
      ·rintro⟨b|rfl,f⟩
       ·exact⟨b,f⟩
       ·obtain⟨a3,y,h4⟩:=f;rw[b2.o] at y;cases y;rw[d1.o] at h4;cases h4),c7,c8,Kw.trans t⟩
   ·have b2:=Kz X;clear X;go_wp2
    go_roundg (gk-1)
    case measure=>omega
    case rel=>exact⟨i+1,I,o,c,p,by go_num,by omega,rfl,a9,by omega,a4,Kz (fun z=>by
     rw[b0.o,c9.o];constructor
     ·rintro⟨b,f⟩;exact⟨.inl b,f⟩
     ·rintro⟨b|rfl,f⟩
      ·exact⟨b,f⟩
      ·obtain⟨a3,y,h4⟩:=f;rw[b2.o] at y;cases y),c7,c8,Kw.trans t⟩
  ·have f3:s.asks.take i=s.asks:=KJ (by omega);have i3:=Kz f3;clear f3;go_wp2
   go_ret
   refine⟨⟨I,o,c,p,rfl,a9,e0.o,⟨a4.o,fun z=>?_⟩,e1.o⟩,x.o.trans J⟩;rw[b0.o,i3.o];constructor
   ·rintro⟨b,f⟩;exact⟨r,_,S.o,b6.o,g7.o,c2.o,by rw[c1.o];exact b,f⟩
   ·rintro⟨r',A',F,_,_,f4,b,f⟩;rw[S.o] at F;cases F;rw[c2.o] at f4;cases f4;rw[c1.o] at b;exact⟨b,f⟩
theorem nI(w:LP)(a:LM)(h:Nat)(b:List Qq)(i:LM)(j k:Nat)(d:LM)(l:Nat)(c:List Qz)(f:LK)(m:b.length<=1048576)(n:c.length<=1048576)(p:bT (Q_ b))(q:dB b c)(r:bN w a b)(s:bD w d c):
  Calls prog 65 #[.agg #[.slice a b.length h],.agg #[.slice i j k,.slice d c.length l],.string f] w fun e w'=>Ex b c f w' e/\K_ w w':=
 (sI w a h b i j k d l c f m n p q r s).mono fun _e _w' ⟨⟨t,o,v,x,y,A,B,C,_⟩,D⟩=>⟨⟨t,o,v,x,y,A,B,C⟩,D⟩
theorem Tryz.GQ :(prog.info? 3).map (fun i=>(i.zero,i.size,i.bytes))=some (some (.int .i64 0),1,8):=by kernel_rfl
def runN(sl:List Qz)(p:Nat):LK:=(sl.getD p Qz.zero).name
def fH(w:LP)(fb n:Nat)(V:Nat->Nat):Prop:=w.rowIs fb 3 n (fun i=>.int .i64 (V i:Int))
variable {fb : Nat} {V : Nat -> Nat}
theorem fH.kept{w':LP}(h:fH w fb n V)(k:K_ w w'):fH w' fb n V:=by
 obtain⟨c,a,d⟩:=h;exact⟨c,(k.block fb (aO a)).trans a,d⟩
theorem fH.lt(h:fH w fb n V):fb<w.heap.size:=by obtain⟨c,b,_⟩:=h;exact aO b
theorem fH.put(h:fH w fb n V)(i v:Nat):fH (w.setCell ⟨fb,i,none⟩ (.int .i64 (v:Int))) fb n (fun p=>if p=i then v else V p):=by
 obtain⟨c,a,b,d⟩:=World.rowIs.set h i (.int .i64 (v:Int));refine⟨c,a,b,fun p f=>?_⟩;rw[d p f];by_cases e:p=i
 ·simp[e]
 ·simp[e]
theorem fH.ne(h:fH w fb n V){b o:Nat}{s:LK}(a:w.cell? ⟨b,o,none⟩=some (.string s)):b≠fb:=by
 rintro rfl;by_cases d:o<n
 ·rw[World.rowIs.cell h d] at a;cases a
 ·obtain⟨c,e,f,_⟩:=h;simp[World.cell?,e] at a;have:=(KQ.1 a).1;omega
theorem fH.strs(h:fH w fb n V){b o:Nat}{l:List LK}(d:Strs w (some ⟨b,o,none⟩) l)(i:Nat)(v:LQ):Strs (w.setCell ⟨fb,i,none⟩ v) (some ⟨b,o,none⟩) l:=fun q f=>by
 obtain⟨k,m,e,j,a⟩:=d q f;cases e;exact⟨b,o,rfl,by rw[size_setCell];exact j,by rw[Zk (h.ne a)];exact a⟩
def IR(Kq:List Qq)(sl:List Qz)(goal:LK)(w w':LP)(e:Ending):Prop:=∃fb V,e= .returned (.slice (some ⟨fb,0,none⟩) sl.length sl.length)/\fH w' fb sl.length V/\(∀p,p<sl.length->dO (aS (Q_ Kq) (Qj sl)) goal (sl.length+1) (runN sl p) (V p))/\K_ w w'
theorem ED(w:LP)(a:LM)(Q:Nat)(l:List Qq)(H:LM)(I J:Nat)(d:LM)(L:Nat)(c:List Qz)(j:LK)(f8:l.length<=1048576)(i0:c.length<=1000)(d2:bT (Q_ l))(hg:dB l c)(hN:bN w a l)(hS:bD w d c):
  Calls prog 64 #[.agg #[.slice a l.length Q],.agg #[.slice H I J,.slice d c.length L],.string j] w fun e w'=>IR l c j w w' e:=by
 obtain⟨t,W⟩:=aj ((w.alloc (.cells #[.slice a l.length Q] 25)).alloc (.cells #[.slice H I J,.slice d c.length L] 29));have kB:K_ w t:=by rw[W];exact (ag _ _).alloc _
 have g0:t.heap.size=w.heap.size+2:=by rw[W];simp
 have d3:t.cell? ⟨w.heap.size,0,none⟩=some (.slice a l.length Q):=by rw[W,K_.cell (w:=w.alloc (.cells #[.slice a l.length Q] 25)) (ag _ _) (by simp)];exact Xz w _ _ 0 _ rfl
 have s0:t.cell? ⟨w.heap.size+1,0,none⟩=some (.slice H I J):=by have:=Xz (w.alloc (.cells #[.slice a l.length Q] 25)) #[.slice H I J,.slice d c.length L] 29 0 _ rfl;rw[KR] at this;rw[W];exact this
 have s1:t.cell? ⟨w.heap.size+1,1,none⟩=some (.slice d c.length L):=by have:=Xz (w.alloc (.cells #[.slice a l.length Q] 25)) #[.slice H I J,.slice d c.length L] 29 1 _ rfl;rw[KR] at this;rw[W];exact this
 have z0:w.heap.size<t.heap.size:=by omega
 have z1:w.heap.size+1<t.heap.size:=by omega
 have S:Hid (∀w',K_ t w'->w'.cell? ⟨w.heap.size,0,none⟩=some (.slice a l.length Q)/\w'.cell? ⟨w.heap.size+1,0,none⟩=some (.slice H I J)/\w'.cell? ⟨w.heap.size+1,1,none⟩=some (.slice d c.length L)/\w.heap.size<w'.heap.size/\w.heap.size+1<w'.heap.size):=fun w' K=>⟨(K.cell z0).trans d3,(K.cell z1).trans s0,(K.cell z1).trans s1,JQ z0 K.size,JQ z1 K.size⟩
 have d4:c.length<=1048576:=by omega
 have g1:=run_make_row' (P:=prog) 52 3 _ _ underlying52 Tryz.GQ rfl .i64 .i64 c.length (by omega) (by omega);obtain⟨W0,b1⟩:=aj (t.alloc (.cells (madeCells #[.int .i64 0] c.length) 3));have k0:K_ t W0:=by rw[b1];exact ag _ _
 have b5:Hid (fH W0 t.heap.size c.length (fun _=>0)):=by
  rw[b1];exact World.rowIs_made t (.int .i64 0) c.length 3
 have⟨a6,d5⟩:=aH kB hg;clear kB g0 hg;go_enter func64,ntmps64
 go_upto_region 1 with fail
 rw[<-W];clear W;go_wp2
 rw[<-b1];clear b1 g1 d3 s0 s1;obtain⟨R,b6⟩:=aj t.heap.size;rw[<-b6] at b5⊢;have d6:t.heap.size<=R:=Kv b6.symm;have i1:w.heap.size+1<R:=by omega
 clear b6;go_loopw [8] (fun x8 wr=>∃(n:Nat) (V:Nat->Nat),1<=n/\n<=c.length+1/\x8= .int .i64 (n:Int)/\Hid (fH wr R c.length V)/\Hid (∀p,p<c.length->dO (aS (Q_ l) (Qj c)) j n (runN c p) (V p))/\K_ t wr) (fun x8 _=>c.length+1-(intOf x8).toNat)
 case atStart=>exact⟨1,_,JP _,by omega,rfl,b5,Kz (fun p _=>dO.start),k0⟩
 case round=>
  clear b5 k0;obtain⟨n,V,d7,i2,rfl,M,T,A⟩:=hrel;obtain⟨b7,c1,c2,y0,y1⟩:=S.o _ A;by_cases i3:n<=c.length;rotate_left
  ·have d8:n=c.length+1:=by omega
   have g2:=Kz d8;have U:¬((n:Int)<=(c.length:Int)):=by omega
   clear d8;go_wp2
   go_ret
   refine⟨R,V,rfl,M.o,fun p y=>?_,a6.o.trans A⟩;rw[<-g2.o];exact T.o p y
  have i4:(n:Int)<=(c.length:Int):=by omega
  go_upto_region 6 with fail
  go_loopw [9] (fun x9 wr=>∃(i:Nat) (V:Nat->Nat),i<=c.length/\x9= .int .i64 (i:Int)/\Hid (fH wr R c.length V)/\Hid (∀p,p<c.length->dO (aS (Q_ l) (Qj c)) j (if p<i then n+1 else n) (runN c p) (V p))/\K_ t wr) (fun x9 _=>c.length-(intOf x9).toNat)
  case atStart=>exact⟨0,V,JR _,rfl,M,Kz (fun p y=>by rw[Lu (Nat.not_lt_zero _)];exact T.o p y),A⟩
  case round=>
   clear M T b7 c1 c2 y0 y1 A V;obtain⟨i,V,hi,rfl,M,T,A⟩:=hrel;obtain⟨b7,c1,c2,y0,y1⟩:=S.o _ A;by_cases a7:i<c.length;rotate_left
   ·have d9:i=c.length:=by omega
    have g3:=Kz d9;have i5:¬((i:Int)<(c.length:Int)):=by omega
    clear d9;go_wp2
    go_roundw
    case rel=>exact⟨n+1,V,by omega,by omega,by go_num,M,Kz (fun p y=>by have h:=T.o p y;rw[Lt (by rw[g3.o];exact y)] at h;exact h),A⟩
    case measure=>simp[intOf];omega
   have i6:(i:Int)<(c.length:Int):=by omega
   obtain⟨rb,ro,xa,xc,e1,g4,e0,_,_⟩:=(hS.kept (a6.o.trans A)) i a7;subst e1;obtain⟨x,hx⟩:=aj (runN c i);have t0:=e0 0 _ rfl;rw[La] at t0;have e2:wr.cell? ⟨rb,ro+i*7,none⟩=some (.string x):=by rw[hx];exact t0
   clear t0 e0;have t0:=e2;clear e2;have f0:=World.rowIs.cell M.o a7;try dsimp only at f0
   have fz:=M.o.lt;have HX:=Kz hx;have a8:Hid (dO (aS (Q_ l) (Qj c)) j n x (V i)):=by have h:=T.o i a7;rw[Lu (Nat.lt_irrefl _),<-hx] at h;exact h
   clear hx;by_cases a3:V i≠0\/aP x j
   ·have a4:=Kz a3;have e3:Hid (∀p,p<c.length->dO (aS (Q_ l) (Qj c)) j (if p<i+1 then n+1 else n) (runN c p) (V p)):=fun p y=>by
     by_cases e:p=i
     ·subst e;rw[Lt (by omega),<-HX.o];exact a8.o.keep a4.o
     ·have h:=T.o p y;by_cases X:p<i
      ·rw[Lt X] at h;rw[Lt (by omega)];exact h
      ·rw[Lu X] at h;rw[Lu (by omega)];exact h
    have e4:(0:Int)<(V i:Int)\/(¬((0:Int)<(V i:Int))/\Op.bytesLess x.toList j.toList=true):=by
     by_cases g5:V i=0
     ·refine .inr ⟨by omega, ?_⟩;rcases a3 with h|h
      ·exact Lv g5 h
      ·exact h
     ·exact .inl (by omega)
    obtain⟨v,hv⟩:=aj (V i);rw[<-hv] at f0 e4;clear a3 hv;rcases e4 with y|⟨y,hb⟩
    ·go_wp2
     go_roundw
     case rel=>exact⟨i+1,V,by omega,by go_num,M,e3,A⟩
     case measure=>simp[intOf];omega
    ·go_wp2
     go_roundw
     case rel=>exact⟨i+1,V,by omega,by go_num,M,e3,A⟩
     case measure=>simp[intOf];omega
   have b8:V i=0:=by
    by_cases h:V i=0
    ·exact h
    ·exact Lv (.inl h) a3
   have b9:¬aP x j:=fun h=>a3 (.inr h)
   have i7:Op.bytesLess x.toList j.toList=false:=by
    cases h:Op.bytesLess x.toList j.toList
    ·rfl
    ·exact Lv h b9
   rw[b8] at a8 f0;have⟨g6,c0⟩:=aH b8 b9;clear a3 b8 b9;have c3:Hid (∀w',K_ wr w'->w'.cell? ⟨w.heap.size,0,none⟩=some (.slice a l.length Q)/\w'.cell? ⟨w.heap.size+1,0,none⟩=some (.slice H I J)/\w'.cell? ⟨w.heap.size+1,1,none⟩=some (.slice (some ⟨rb,ro,none⟩) c.length L)/\w'.cell? ⟨rb,ro+i*7,none⟩=some (.string x)):=fun w' K=>⟨(S.o w' (A.trans K)).1,(S.o w' (A.trans K)).2.1,(S.o w' (A.trans K)).2.2.1,(K.cell g4).trans t0⟩
   go_upto_region 9 with fail
   refine bf 9 c3.o fun Y r b=>?_
   refine au 0 b ?_;refine au 4 b ?_;refine ak 8 (fun K m=>?_);go_simp
   go_at_call 65
   refine (nI Y a Q l H I J (some ⟨rb,ro,none⟩) L c x f8 d4 d2 d5.o (hN.kept (a6.o.trans (A.trans r))) (hS.kept (a6.o.trans (A.trans r)))).mono ?_;rintro e w2 ⟨⟨lb,lo,lc,E,rfl,i8,e5,c4⟩,k2⟩;have K2:=r.trans k2;refine ae m (fun _=>c3.o _ K2) ?_;clear m K b;refine ah 9 (fun K m=>?_);go_simp
   refine ae m (fun h=>Lv rfl h) ?_;clear m K;refine aB ?_;have⟨e6,e7⟩:=aH c4 e5;have e8:=Kz (M.o.kept K2);have e9:=A.trans K2;have i9:=c4.len d2 d5.o.env;have f1:=Kz (fun p y=>T.o p y);clear c4 e5 f0 fz t0 b7 c1 c2 y0 y1 c3 k2;go_wp2
   go_loopw [11] (fun c5 wr=>∃(k v:Nat),k<=E.length/\c5= .int .i64 (k:Int)/\Hid (fH wr R c.length (fun p=>if p=i then v else V p))/\Hid ((v=n/\∃s,Hit (aS (Q_ l) (Qj c)) j n x s)\/(v=0/\∀s∈E.take k,¬Hit (aS (Q_ l) (Qj c)) j n x s))/\Hid (Strs wr (some ⟨lb,lo,none⟩) E)/\K_ t wr) (fun c5 _=>E.length-(intOf c5).toNat)
   case atStart=>exact⟨0,0,JR _,rfl,Kz (World.rowIs.congr e8.o (fun p y=>by by_cases e:p=i;(subst e;simp[g6.o]);simp[e])),Kz (.inr ⟨rfl,fun s hs=>by simp at hs⟩),e7,e9⟩
   case round=>
    clear e8 e7 e9;obtain⟨k,v,hk,rfl,N,a5,Z,F⟩:=hrel;by_cases a0:k<E.length;rotate_left
    ·have f2:E.take k=E:=KJ (by omega);have j0:¬((k:Int)<(E.length:Int)):=by omega
     have g7:=Kz f2;clear f2;go_wp2
     go_roundw
     case rel=>
      refine⟨i+1,fun p=>if p=i then v else V p,by omega,by go_num,N,Kz (fun p y=>?_),F⟩;by_cases e:p=i
      ·subst e;dsimp only;rw[if_pos (by omega),if_pos rfl,<-HX.o];rcases a5.o with⟨rfl,B⟩|⟨rfl,B⟩
       ·exact dO.hit d7 a8.o c0.o B
       ·refine dO.miss d7 a8.o c0.o (fun ⟨z,f⟩=>?_);rw[g7.o] at B;exact B z ((e6.o.2 z).2 f.1) f
      ·dsimp only;rw[if_neg e];have h:=f1.o p y;by_cases X:p<i
       ·rw[Lt X] at h;rw[Lt (by omega)];exact h
       ·rw[Lu X] at h;rw[Lu (by omega)];exact h
     case measure=>simp[intOf];omega
    obtain⟨j1,j2,e1,g8,c6⟩:=Z.o k a0;cases e1;obtain⟨s,hs⟩:=aj (E.getD k ByteArray.empty);rw[<-hs] at c6;have c7:E[k]=s:=by rw[hs];simp[List.getD,a0]
    have a4:=Kz c7;have c8:Hid (aS (Q_ l) (Qj c) x s):=(e6.o.2 s).1 (by rw[<-c7];exact J_ a0);clear hs c7;have j3:(k:Int)<(E.length:Int):=by omega
    obtain⟨_,c1,c2,y0,y1⟩:=S.o _ F;have a1:Hid (∀w',K_ wr w'->w'.cell? ⟨lb,lo+k,none⟩=some (.string s)/\w'.cell? ⟨w.heap.size+1,0,none⟩=some (.slice H I J)/\w'.cell? ⟨w.heap.size+1,1,none⟩=some (.slice (some ⟨rb,ro,none⟩) c.length L)/\Hid (fH w' R c.length (fun p=>if p=i then v else V p))):=fun w' K=>⟨(K.cell g8).trans c6,(S.o w' (F.trans K)).2.1,(S.o w' (F.trans K)).2.2.1,Kz (N.o.kept K)⟩
    go_upto_region 13 with fail
    clear c1 c2 y0 y1 c6;by_cases hn:n=1
    ·have HN:=Kz hn;have g9:((n:Int) == 1)=true:=by simp[hn]
     have h0:¬((1:Int)<(n:Int)):=by omega
     clear hn;cases f3:(s.toList == j.toList)
     ·have a2:Hid (¬Hit (aS (Q_ l) (Qj c)) j n x s):=fun h=>by
       rcases h.2 with⟨_,e⟩|⟨e,_⟩
       ·exact jV f3 e
       ·have:=HN.o;omega
      refine bf 35 a1.o fun Y r b=>?_
      refine au 0 b ?_;refine au 4 b ?_;refine au 8 b ?_;refine af 12 b ?_;refine af 13 b ?_;refine aD 14 b ?_;refine aD 15 b ?_;refine aD 16 b ?_;refine aD 17 b ?_;refine aD 18 b ?_;refine aD 19 b ?_;refine af 20 b ?_;refine af 21 b ?_;refine aD 22 b ?_;refine aD 23 b ?_;refine aD 24 b ?_;refine aD 25 b ?_;refine aD 26 b ?_;refine aD 27 b ?_;refine aD 28 b ?_;refine aD 29 b ?_;refine aD 30 b ?_;refine aD 31 b ?_;refine aD 32 b ?_;refine aD 33 b ?_;refine af 34 b ?_;refine ah 35 (fun K m=>?_);go_simp
      refine ae m (fun h=>Lv rfl h) ?_;clear m K;refine aB ?_;go_wp2
      go_roundw
      case rel=>
       refine⟨k+1,v,by omega,by go_num,Kz (N.o.kept r),Kz ?_,Kz (Z.o.kept r),F.trans r⟩;rcases a5.o with h|⟨D,B⟩
       ·exact .inl h
       ·refine .inr ⟨D,fun z f=>?_⟩;rw[JX a0,a4.o] at f;rcases JZ.1 f with f | f
        ·exact B z f
        ·rw[JY] at f;rw[f];exact a2.o
      case measure=>simp[intOf];omega
     ·have c9:Hid (Hit (aS (Q_ l) (Qj c)) j n x s):=⟨c8.o,.inl ⟨HN.o,eF f3⟩⟩;refine bf 35 a1.o fun Y r b=>?_
      refine au 0 b ?_;refine au 4 b ?_;refine af 8 b ?_;refine af 9 b ?_;refine af 10 b ?_;refine aD 11 b ?_;refine aD 12 b ?_;refine aD 13 b ?_;refine aD 14 b ?_;refine aD 15 b ?_;refine aD 16 b ?_;refine aD 17 b ?_;refine aD 18 b ?_;refine aD 19 b ?_;refine aD 20 b ?_;refine aD 21 b ?_;refine aD 22 b ?_;refine aD 23 b ?_;refine aD 24 b ?_;refine aD 25 b ?_;refine aD 26 b ?_;refine aD 27 b ?_;refine aD 28 b ?_;refine aD 29 b ?_;refine aD 30 b ?_;refine aD 31 b ?_;refine aD 32 b ?_;refine aD 33 b ?_;refine aD 34 b ?_;refine ah 35 (fun K m=>?_);go_simp
      refine ae m (fun h=>absurd rfl h) ?_;clear m K;refine aB ?_;have G:=Kz (N.o.kept r);have d0:=Kz (Z.o.kept r);have a9:=World.rowIs.cell G.o a7;have h1:=World.rowIs.frozen G.o i;have fz:=G.o.lt;dsimp only at a9;rw[if_pos rfl] at a9;go_wp2
      go_roundw
      case rel=>
       refine⟨k+1,n,by omega,by go_num,Kz ?_,Kz (.inl ⟨rfl,s,c9.o⟩),Kz (G.o.strs d0.o i _),Below.setCell (F.trans r) (p:=⟨R,i,none⟩) d6 _⟩;exact World.rowIs.congr (G.o.put i n) (fun p y=>by by_cases e:p=i <;> simp[e])
      case measure=>simp[intOf];omega
    ·have HN:=Kz hn;have g9:((n:Int) == 1)=false:=by simp;omega
     have h0:(1:Int)<(n:Int):=by omega
     clear hn;by_cases U:aP j s
     ·have j4:IntKind.i64.wrap ((n:Int)-1)= (n:Int)-1:=by rw[IntKind.wrap_i64];omega
      have f4:Hid (aP j s):=U;have f5:Op.bytesLess s.toList j.toList=false:=by
       cases h:Op.bytesLess s.toList j.toList
       ·rfl
       ·exact Lv (show aP s j from h) (dH U)
      have h2:(s.toList == j.toList)=false:=by
       cases h:(s.toList == j.toList)
       ·rfl
       ·exact Lv U (by rw[eF h];exact aV _)
      clear U;refine bf 35 a1.o fun Y r b=>?_
      refine af 0 b ?_;refine af 1 b ?_;refine af 2 b ?_;refine aD 3 b ?_;refine aD 4 b ?_;refine aD 5 b ?_;refine aD 6 b ?_;refine aD 7 b ?_;refine aD 8 b ?_;refine au 9 b ?_;refine au 13 b ?_;refine au 17 b ?_;refine au 21 b ?_;refine af 25 b ?_;refine af 26 b ?_;refine af 27 b ?_;refine af 31 b ?_;refine af 32 b ?_;refine ak 28 (fun K m=>?_);go_simp
      go_at_call 43
      refine (fZ Y H I J (some ⟨rb,ro,none⟩) L c s d4 (hS.kept (a6.o.trans (F.trans r)))).mono ?_;rintro e w3 ⟨⟨q,rfl,hq⟩,h4⟩;have O:=r.trans h4;obtain⟨C,b2,rfl,h5,d1⟩:∃C:Nat,C<c.length/\q= (C:Int)/\Qj c s=some (c.getD C Qz.zero)/\(c.getD C Qz.zero).name=s:=by
       rcases hq with⟨C,D,B,h3,h6⟩|⟨_,D⟩
       ·exact⟨C,D,B,h3,h6⟩
       ·obtain⟨_,_,_,_,_,_,_,j5,hy,_⟩:=c8.o;rw[D] at hy;cases hy
      clear hq;have b3:=World.rowIs.cell (N.o.kept O) b2;dsimp only at b3;have j6:=(N.o.kept O).lt;have j7:(C:Int)<(c.length:Int):=by omega
      have j8:(0:Int)<=(C:Int):=by omega
      obtain⟨q,b0⟩:=aj ((if C=i then v else V C));rw[<-b0] at b3;have HQ:Hid (q=n-1↔dQ (aS (Q_ l) (Qj c)) j (n-1) s):=by
       show q=n-1↔_;by_cases e:C=i
       ·have h7:s=x:=by rw[HX.o,<-e];exact d1.symm
        rw[b0,Lt e,h7];refine⟨fun h=>?_,fun h=>?_⟩
        ·rcases a5.o with⟨D,_⟩ | ⟨D,_⟩ <;> omega
        ·have:=(a8.o.2 c0.o).2 (n-1) (by omega) h;have:=h.1.pos;omega
       ·rw[b0,Lu e];have h:=f1.o C b2;have X:runN c C=s:=d1;rw[X] at h;exact h.ask f4.o (by omega) (by split <;> omega)
      have f6:=Kz b0;clear b0 h5 d1;dsimp only;refine ae m (fun _=>a1.o _ O) ?_;clear m K;clear b;have b:=a1.o _ O;by_cases b4:q=n-1
      ·have h8:((q:Int) == (n:Int)-1)=true:=by simp;omega
       have c9:Hid (Hit (aS (Q_ l) (Qj c)) j n x s):=⟨c8.o,.inr ⟨by omega,f4.o,HQ.o.1 b4⟩⟩;clear b4;refine af 29 b ?_;refine bJ 30 ?_ b ?_ ?_;rotate_left
       ·intro u hu;try dsimp only at hu
        have f9:=World.rowIs.cell hu.2.2.2.out b2;try dsimp only at f9
        rw[<-f6.o] at f9;go_simp
        try with_reducible rfl
       try simp only[upP]
       refine af 33 b ?_;refine af 34 b ?_;refine ah 35 (fun K m=>?_);go_simp
       refine ae m (fun h=>absurd rfl h) ?_;clear m K;refine aB ?_;clear b b3;have G:=Kz (N.o.kept O);have d0:=Kz (Z.o.kept O);have a9:=World.rowIs.cell G.o a7;have h1:=World.rowIs.frozen G.o i;have fz:=G.o.lt;dsimp only at a9;rw[if_pos rfl] at a9;go_wp2
       go_roundw
       case rel=>
        refine⟨k+1,n,by omega,by go_num,Kz ?_,Kz (.inl ⟨rfl,s,c9.o⟩),Kz (G.o.strs d0.o i _),Below.setCell (F.trans O) (p:=⟨R,i,none⟩) d6 _⟩;exact World.rowIs.congr (G.o.put i n) (fun p y=>by by_cases e:p=i <;> simp[e])
       case measure=>simp[intOf];omega
      ·have h8:((q:Int) == (n:Int)-1)=false:=by simp;omega
       have a2:Hid (¬Hit (aS (Q_ l) (Qj c)) j n x s):=fun h=>by
        rcases h.2 with⟨e,_⟩|⟨_,_,e⟩
        ·exact HN.o e
        ·exact b4 (HQ.o.2 e)
       clear b4;refine af 29 b ?_;refine bJ 30 ?_ b ?_ ?_;rotate_left
       ·intro u hu;try dsimp only at hu
        have f9:=World.rowIs.cell hu.2.2.2.out b2;try dsimp only at f9
        rw[<-f6.o] at f9;go_simp
        try with_reducible rfl
       try simp only[upP]
       refine af 33 b ?_;refine af 34 b ?_;refine ah 35 (fun K m=>?_);go_simp
       refine ae m (fun h=>Lv rfl h) ?_;clear m K;refine aB ?_;clear b b3;go_wp2
       go_roundw
       case rel=>
        refine⟨k+1,v,by omega,by go_num,Kz (N.o.kept O),Kz ?_,Kz (Z.o.kept O),F.trans O⟩;rcases a5.o with h|⟨D,B⟩
        ·exact .inl h
        ·refine .inr ⟨D,fun z f=>?_⟩;rw[JX a0,a4.o] at f;rcases JZ.1 f with f | f
         ·exact B z f
         ·rw[JY] at f;rw[f];exact a2.o
       case measure=>simp[intOf];omega
     ·have f7:=Kz U;have h9:Op.bytesLess s.toList j.toList=true\/(Op.bytesLess s.toList j.toList=false/\(s.toList == j.toList)=true):=by
       rcases dI s j with h|h|h
       ·exact .inl h
       ·right
        subst h;exact⟨by cases B:Op.bytesLess s.toList s.toList;rfl;exact Lv (show aP s s from B) (aV s),by simp⟩
       ·exact Lv h U
      clear U;rcases h9 with f5|⟨f5,h2⟩
      ·have a2:Hid (¬Hit (aS (Q_ l) (Qj c)) j n x s):=fun h=>by
        rcases h.2 with⟨e,_⟩|⟨_,e,_⟩
        ·exact HN.o e
        ·exact f7.o e
       refine bf 35 a1.o fun Y r b=>?_
       refine af 0 b ?_;refine af 1 b ?_;refine af 2 b ?_;refine aD 3 b ?_;refine aD 4 b ?_;refine aD 5 b ?_;refine aD 6 b ?_;refine aD 7 b ?_;refine aD 8 b ?_;refine au 9 b ?_;refine au 13 b ?_;refine au 17 b ?_;refine af 21 b ?_;refine aD 22 b ?_;refine aD 23 b ?_;refine aD 24 b ?_;refine aD 25 b ?_;refine aD 26 b ?_;refine aD 27 b ?_;refine aD 28 b ?_;refine aD 29 b ?_;refine aD 30 b ?_;refine aD 31 b ?_;refine aD 32 b ?_;refine aD 33 b ?_;refine af 34 b ?_;refine ah 35 (fun K m=>?_);go_simp
       refine ae m (fun h=>Lv rfl h) ?_;clear m K;refine aB ?_;go_wp2
       go_roundw
       case rel=>
        refine⟨k+1,v,by omega,by go_num,Kz (N.o.kept r),Kz ?_,Kz (Z.o.kept r),F.trans r⟩;rcases a5.o with h|⟨D,B⟩
        ·exact .inl h
        ·refine .inr ⟨D,fun z f=>?_⟩;rw[JX a0,a4.o] at f;rcases JZ.1 f with f | f
         ·exact B z f
         ·rw[JY] at f;rw[f];exact a2.o
       case measure=>simp[intOf];omega
      ·have a2:Hid (¬Hit (aS (Q_ l) (Qj c)) j n x s):=fun h=>by
        rcases h.2 with⟨e,_⟩|⟨_,e,_⟩
        ·exact HN.o e
        ·exact f7.o e
       refine bf 35 a1.o fun Y r b=>?_
       refine af 0 b ?_;refine af 1 b ?_;refine af 2 b ?_;refine aD 3 b ?_;refine aD 4 b ?_;refine aD 5 b ?_;refine aD 6 b ?_;refine aD 7 b ?_;refine aD 8 b ?_;refine au 9 b ?_;refine au 13 b ?_;refine au 17 b ?_;refine af 21 b ?_;refine aD 22 b ?_;refine aD 23 b ?_;refine aD 24 b ?_;refine aD 25 b ?_;refine aD 26 b ?_;refine aD 27 b ?_;refine aD 28 b ?_;refine aD 29 b ?_;refine aD 30 b ?_;refine aD 31 b ?_;refine aD 32 b ?_;refine aD 33 b ?_;refine af 34 b ?_;refine ah 35 (fun K m=>?_);go_simp
       refine ae m (fun h=>Lv rfl h) ?_;clear m K;refine aB ?_;go_wp2
       go_roundw
       case rel=>
        refine⟨k+1,v,by omega,by go_num,Kz (N.o.kept r),Kz ?_,Kz (Z.o.kept r),F.trans r⟩;rcases a5.o with h|⟨D,B⟩
        ·exact .inl h
        ·refine .inr ⟨D,fun z f=>?_⟩;rw[JX a0,a4.o] at f;rcases JZ.1 f with f | f
         ·exact B z f
         ·rw[JY] at f;rw[f];exact a2.o
       case measure=>simp[intOf];omega
theorem kr{c:List Qq}{a:List Qz}(x y:LK)(h:aS (Q_ c) (Qj a) x y):x∈a.map (·.name):=by
 obtain⟨r,A,f,_⟩:=h;have b:=bF f;rw[<-b.2];exact Ku.2 ⟨r,b.1,rfl⟩
theorem Ab{a:List Qz}(c:cO a){i:Nat}(b:i<a.length){x:LK}(d:x=runN a i):∀y∈(a.take i).map (·.name),aP y x:=fun y e=>by
 obtain⟨r,f,rfl⟩:=Ku.1 e;obtain⟨j,k,rfl⟩:=List.mem_take_iff_getElem.1 f;have h:j<i:=by omega
 rw[d,show runN a i=a[i].name by simp[runN,List.getD,b]];exact Ka.1 c j i (by omega) b h
def Hm(Kq:List Qq)(sl:List Qz)(w w':LP)(e:Ending):Prop:=∃av cv ns,e= .returned (.slice av ns.length cv)/\ns.length<=cv/\Strs w' av ns/\jc (aS (Q_ Kq) (Qj sl)) (sl.map (·.name)) ns/\K_ w w'
theorem yV(w:LP)(a:LM)(H:Nat)(f:List Qq)(C:LM)(D E:Nat)(d:LM)(F:Nat)(b:List Qz)(d4:f.length<=1048576)(f8:b.length<=1000)(b5:bT (Q_ f))(hg:dB f b)(hN:bN w a f)(hS:bD w d b):
  Calls prog 29 #[.agg #[.slice a f.length H],.agg #[.slice C D E,.slice d b.length F]] w fun e w'=>Hm f b w w' e:=by
 obtain⟨G,R⟩:=aj ((w.alloc (.cells #[.slice a f.length H] 25)).alloc (.cells #[.slice C D E,.slice d b.length F] 29));have kB:K_ w G:=by rw[R];exact (ag _ _).alloc _
 have g0:G.heap.size=w.heap.size+2:=by rw[R];simp
 have b0:G.cell? ⟨w.heap.size,0,none⟩=some (.slice a f.length H):=by rw[R,K_.cell (w:=w.alloc (.cells #[.slice a f.length H] 25)) (ag _ _) (by simp)];exact Xz w _ _ 0 _ rfl
 have s0:G.cell? ⟨w.heap.size+1,0,none⟩=some (.slice C D E):=by have:=Xz (w.alloc (.cells #[.slice a f.length H] 25)) #[.slice C D E,.slice d b.length F] 29 0 _ rfl;rw[KR] at this;rw[R];exact this
 have s1:G.cell? ⟨w.heap.size+1,1,none⟩=some (.slice d b.length F):=by have:=Xz (w.alloc (.cells #[.slice a f.length H] 25)) #[.slice C D E,.slice d b.length F] 29 1 _ rfl;rw[KR] at this;rw[R];exact this
 have z0:w.heap.size<G.heap.size:=by omega
 have z1:w.heap.size+1<G.heap.size:=by omega
 have Y:Hid (∀w',K_ G w'->w'.cell? ⟨w.heap.size,0,none⟩=some (.slice a f.length H)/\w'.cell? ⟨w.heap.size+1,0,none⟩=some (.slice C D E)/\w'.cell? ⟨w.heap.size+1,1,none⟩=some (.slice d b.length F)/\w.heap.size<w'.heap.size/\w.heap.size+1<w'.heap.size):=fun w' K=>⟨(K.cell z0).trans b0,(K.cell z1).trans s0,(K.cell z1).trans s1,JQ z0 K.size,JQ z1 K.size⟩
 have d5:b.length<=1048576:=by omega
 obtain⟨ic,g1,g2,g3,g4⟩:=aQ Tryz.bY;obtain⟨W0,b6⟩:=aj (G.alloc (.cells #[] 9));have k0:K_ G W0:=by rw[b6];exact ag _ _
 have⟨S,a7⟩:=aH kB hg;clear kB g0 hg;go_enter func29,ntmps29
 go_upto_region 1 with fail
 rw[<-R];clear R;go_wp2
 rw[<-b6];clear b6 b0 s0 s1;go_loopw [5,6] (fun x5 x6 wr=>∃(n:Nat) (av:LM) (cv:Nat) (m:List LK),n<=b.length/\x6= .int .i64 (n:Int)/\x5= .slice av m.length cv/\m.length<=cv/\Hid (Strs wr av m)/\Hid (jc (aS (Q_ f) (Qj b)) ((b.take n).map (·.name)) m)/\K_ G wr) (fun _ x6 _=>b.length-(intOf x6).toNat)
 case atStart=>exact⟨0,_,_,[],JR _,rfl,rfl,JR _,Kz (fun p hq=>Lv hq (Nat.not_lt_zero p)),Kz (jc.start _),k0⟩
 case round=>
  clear k0;obtain⟨n,av,cv,m,hi,rfl,rfl,d6,HB,HR,Z⟩:=hrel;obtain⟨g5,c1,g6,y0,y1⟩:=Y.o _ Z;by_cases a0:n<b.length;rotate_left
  ·have d7:n=b.length:=by omega
   have g7:=Kz d7;have k7:¬((n:Int)<(b.length:Int)):=by omega
   clear d7;go_wp2
   go_ret
   refine⟨av,cv,m,rfl,d6,HB.o, ?_,S.o.trans Z⟩;have h:=HR.o;rw[g7.o,KI] at h;exact h
  have k8:(n:Int)<(b.length:Int):=by omega
  obtain⟨rb,ro,xa,xc,e1,k9,d8,_,_⟩:=(hS.kept (S.o.trans Z)) n a0;subst e1;obtain⟨x,hx⟩:=aj (runN b n);have t0:=d8 0 _ rfl;rw[La] at t0;have d9:wr.cell? ⟨rb,ro+n*7,none⟩=some (.string x):=by rw[hx];exact t0
  clear t0 d8;have t0:=d9;clear d9;have HX:=Kz hx;clear hx;go_wp2_with fail
  refine (ED wr a H f C D E (some ⟨rb,ro,none⟩) F b x d4 f8 b5 a7.o (hN.kept (S.o.trans Z)) (hS.kept (S.o.trans Z))).mono ?_;rintro e w2 ⟨fb,a1,rfl,hF,hV,k2⟩;have⟨HF,HV⟩:=aH hF hV;have I:=Z.trans k2;clear hF hV g5 c1 g6 t0;dsimp only;have b7:Hid ((a1 n≠0->dQ (aS (Q_ f) (Qj b)) x (a1 n) x)/\∀t,dQ (aS (Q_ f) (Qj b)) x t x->a1 n=t):=by
   have h:=HV.o n a0;rw[<-HX.o] at h;exact dO.whole (names:=b.map (·.name)) kr (by rw[Lm];exact h) (aV x)
  have f0:=World.rowIs.cell HF.o a0;try dsimp only at f0
  have fz:=HF.o.lt;have g8:=Kz (HB.o.kept k2);have e2:Hid ((b.take (n+1)).map (·.name)= (b.take n).map (·.name)++ [x]):=by
   show _=_;rw[JX a0,LA,HX.o];simp[runN,List.getD,a0]
  have g9:Hid (∀y∈(b.take n).map (·.name),aP y x):=Ab a7.o.asc a0 HX.o;obtain⟨v,hv⟩:=aj (a1 n);rw[<-hv] at f0 b7;have l1:=Kz hv;clear hv HB k2;by_cases T:v=0\/(0<m.length/\m.length<=v)
  ·have a2:Hid (∀a8,dQ (aS (Q_ f) (Qj b)) x a8 x->m≠[]/\m.length<=a8):=fun a8 hn=>by
    have e:=b7.o.2 a8 hn;have hp:=hn.1.pos;rcases T with h|⟨A,q⟩
    ·omega
    ·exact⟨fun e0=>by rw[e0] at A;simp at A,by omega⟩
   have h1:((v:Int) == 0)=true\/(((v:Int) == 0)=false/\(0:Int)<(m.length:Int)/\(m.length:Int)<=(v:Int)):=by
    by_cases h0:v=0
    ·exact .inl (by simp[h0])
    ·refine .inr ⟨by simp;omega, ?_⟩;rcases T with h|⟨A,q⟩
     ·exact Lv h h0
     ·omega
   clear T;rcases h1 with h0|⟨h0,A,q⟩
   all_goals
    go_wp2
    go_roundw
    case rel=>exact⟨n+1,av,cv,m,by omega,by go_num,rfl,d6,g8,Kz (by rw[e2.o];exact jc.skip HR.o a2.o g9.o),I⟩
    case measure=>simp[intOf];omega
  have h2:v≠0:=fun h=>T (.inl h)
  have b8:=Kz (b7.o.1 h2);have h4:Hid (m=[]\/v<m.length):=by
   by_cases h:m.length=0
   ·exact .inl (LB h)
   ·refine .inr ?_;have q:¬(0<m.length/\m.length<=v):=fun q=>T (.inr q)
    omega
  have h5:((v:Int) == 0)=false/\(¬((0:Int)<(m.length:Int))\/((0:Int)<(m.length:Int)/\¬((m.length:Int)<=(v:Int)))):=by
   refine⟨by simp;omega, ?_⟩;have q:¬(0<m.length/\m.length<=v):=fun q=>T (.inr q)
   omega
  have l2:v<=b.length:=by have:=(b8.o).bound (names:=b.map (·.name)) kr;rwa [Lm] at this
  clear T;obtain⟨W3,b1⟩:=aj (w2.alloc (.cells #[.string x] 9));have K3:K_ w2 W3:=by rw[b1];exact ag _ _
  have h6:Hid (W3.ownsRow w2.heap.size 9 1 (.slice (some ⟨w2.heap.size,0,none⟩) 1 1) [x].length ([x].map Value.string)):=by
   rw[b1];exact⟨rfl,.inr ⟨w2.heap.size,1,_,rfl,JP _,heap_alloc_new w2 _,JP _,by unfold maxLen;omega,rfl,rfl⟩⟩
  obtain⟨h0,h7⟩:=h5;rcases h7 with A|⟨A,q⟩
  all_goals
   go_upto_region 10 with fail
   rw[<-b1];clear b1;go_loopg [10] v (fun gg b9 wr=>∃(i:List LK) (J:LK) (lv:LM) (M:Nat),b9= .slice lv i.length M/\Hid (mV (aS (Q_ f) (Qj b)) x v i J gg)/\Hid (wr.ownsRow w2.heap.size 9 1 (.slice lv i.length M) i.length (i.map Value.string))/\K_ w2 wr)
   case atStart=>exact⟨[x],x,_,_,rfl,Kz (mV.start b8.o),h6,K3⟩
   case round=>
    obtain⟨i,J,lv,M,rfl,HP,HO,O⟩:=hrel;have e3:=HP.o.len;have e4:=HP.o.pos;by_cases c0:gk=1
    ·have l3:¬((i.length:Int)<(v:Int)):=by omega
     have h8:Hid (kZ (aS (Q_ f) (Qj b)) x v x i):=by have h:=HP.o;rw[c0] at h;exact h.done
     clear c0 e3 e4;obtain⟨a9,h9,U,V⟩:=aX HO.o;simp only[KX,true_and] at U;rw[<-U.1] at V;have H9:=Kz V;have i0:Hid (i.length<=M):=by
      rcases HO.o.2 with⟨e,h⟩|⟨_,_,_,e,_,_,h,_⟩
      ·simp only[KX] at e;show i.length<=M;omega
      ·simp only[KX] at e;show i.length<=M;omega
     clear U V;go_wp2
     go_roundw
     case rel=>exact⟨n+1,lv,M,i,by omega,by go_num,rfl,i0.o,H9,Kz (by rw[e2.o];exact jc.take HR.o b8.o h8.o h4.o),I.trans O⟩
     case measure=>simp[intOf];omega
    obtain⟨p,hq⟩:∃p,gk=p+1:=⟨gk-1,by omega⟩;have e5:1<=p:=by omega
    have c2:Hid (mV (aS (Q_ f) (Qj b)) x v i J (p+1)):=by have h:=HP.o;rw[hq] at h;exact h
    have HQ:=Kz hq;have l4:(i.length:Int)<(v:Int):=by omega
    obtain⟨t,hm⟩:∃t,i.length=t+1:=⟨i.length-1,by have h:=HP.o.last;obtain⟨l0,e⟩:=h;rw[e];simp⟩;have i1:(i.length:Int)-1= (t:Int):=by omega
    have i2:IntKind.i64.wrap (t:Int)= (t:Int):=by rw[IntKind.wrap_i64];omega
    have i3:(t:Int)<(i.length:Int):=by omega
    have c3:i.getD t ByteArray.empty=J:=by
     obtain⟨l0,e⟩:=HP.o.last;have c4:t=l0.length:=by rw[e,KS] at hm;simp at hm;omega
     rw[e,c4];simp[List.getD]
    obtain⟨a9,h9,U,V⟩:=aX HO.o;simp only[KX,true_and] at U;rw[<-U.1] at V;obtain⟨lb,lo,e1,e6,c6⟩:=V t (by omega);rw[c3] at c6;subst e1;have⟨l5,HM⟩:=aH c3 hm;clear U V hq c3 hm c0 e3 e4;have c7:Hid (∀u,K_ wr u->(u.cell? ⟨w.heap.size,0,none⟩=some (.slice a f.length H)/\u.cell? ⟨w.heap.size+1,0,none⟩=some (.slice C D E)/\u.cell? ⟨w.heap.size+1,1,none⟩=some (.slice (some ⟨rb,ro,none⟩) b.length F)/\u.cell? ⟨lb,lo+t,none⟩=some (.string J))):=fun u K=>⟨(Y.o u (I.trans (O.trans K))).1,(Y.o u (I.trans (O.trans K))).2.1,(Y.o u (I.trans (O.trans K))).2.2.1,(K.cell e6).trans c6⟩
    go_upto_region 11 with fail
    refine bf 9 c7.o fun wd P c=>?_
    refine au 0 c ?_;refine au 4 c ?_;refine ak 8 (fun K r=>?_);go_simp
    go_at_call 65
    refine (nI wd a H f C D E (some ⟨rb,ro,none⟩) F b J d4 d5 b5 a7.o (hN.kept (S.o.trans (I.trans (O.trans P)))) (hS.kept (S.o.trans (I.trans (O.trans P))))).mono ?_;rintro e w4 ⟨⟨nb,no,nc,Q,rfl,l6,e7,c8⟩,k4⟩;have K4:=P.trans k4;dsimp only;refine ae r (fun _=>c7.o _ K4) ?_;clear r K c;refine ah 9 (fun K r=>?_);go_simp
    refine ae r (fun h=>Lv rfl h) ?_;clear r K;refine aB ?_;have⟨b2,i4⟩:=aH c8 e7;have i5:=Kz (ai HO.o K4);have i6:=Kz (HF.o.kept (O.trans K4));have b3:=O.trans K4;have l7:=c8.len b5 a7.o.env;clear c8 e7 c7 i1 i2 i3 c6 k4 e6;go_wp2
    go_loopw [10,12] (fun b9 c9 wr=>∃k:Nat,k<=Q.length/\c9= .int .i64 (k:Int)/\b9= .slice (some ⟨lb,lo,none⟩) i.length M/\Hid (∀y∈Q.take k,¬(aS (Q_ f) (Qj b) J y/\aP x y/\dQ (aS (Q_ f) (Qj b)) x p y))/\K_ w4 wr) (fun _ c9 _=>Q.length-(intOf c9).toNat)
    case atStart=>exact⟨0,JR _,rfl,rfl,Kz (fun y l=>by simp at l),K_.refl _⟩
    case round=>
     obtain⟨k,hk,rfl,rfl,b4,N⟩:=hrel;by_cases a3:k<Q.length;rotate_left
     ·exfalso
      obtain⟨y,A,q,h3⟩:=c2.o.more e5;have l:y∈Q:=(b2.o.2 y).2 A;refine b4.o y ?_ ⟨A,q,h3⟩;rw[KJ (by omega)];exact l
     obtain⟨l8,l9,e1,i7,d0⟩:=(i4.o.kept N) k a3;cases e1;obtain⟨s,hs⟩:=aj (Q.getD k ByteArray.empty);rw[<-hs] at d0;have d1:Q[k]=s:=by rw[hs];simp[List.getD,a3]
     have a2:=Kz d1;have e8:Hid (aS (Q_ f) (Qj b) J s):=(b2.o.2 s).1 (by rw[<-d1];exact J_ a3);clear hs d1;have m0:(k:Int)<(Q.length:Int):=by omega
     have a4:Hid (∀u,K_ wr u->(u.cell? ⟨nb,no+k,none⟩=some (.string s)/\u.cell? ⟨w.heap.size+1,0,none⟩=some (.slice C D E)/\u.cell? ⟨w.heap.size+1,1,none⟩=some (.slice (some ⟨rb,ro,none⟩) b.length F)/\Hid (fH u fb b.length a1))):=fun u K=>⟨(K.cell i7).trans d0,(Y.o u (I.trans (b3.trans (N.trans K)))).2.1,(Y.o u (I.trans (b3.trans (N.trans K)))).2.2.1,Kz (i6.o.kept (N.trans K))⟩
     go_upto_region 15 with fail
     clear d0;by_cases W:aP x s;rotate_left
     ·have i8:=Kz W;have i9:Op.bytesLess s.toList x.toList=true\/(Op.bytesLess s.toList x.toList=false/\(s.toList == x.toList)=true):=by
       rcases dI s x with h|h|h
       ·exact .inl h
       ·right
        rw[h];exact⟨by cases q:Op.bytesLess x.toList x.toList;rfl;exact Lv (show aP x x from q) (aV x),by simp⟩
       ·exact Lv h W
      clear W;rcases i9 with e9|⟨e9,j0⟩
      all_goals
       refine bf 21 a4.o fun wd P c=>?_
       refine au 0 c ?_;refine af 4 c ?_;refine af 5 c ?_;refine af 6 c ?_;refine aD 7 c ?_;refine aD 8 c ?_;refine aD 9 c ?_;refine aD 10 c ?_;refine aD 11 c ?_;refine aD 12 c ?_;refine aD 13 c ?_;refine aD 14 c ?_;refine aD 15 c ?_;refine aD 16 c ?_;refine aD 17 c ?_;refine aD 18 c ?_;refine aD 19 c ?_;refine aD 20 c ?_;refine ah 21 (fun K r=>?_);go_simp
       refine ae r (fun h=>Lv rfl h) ?_;clear r K;refine aB ?_;go_wp2
       go_roundw
       case rel=>exact⟨k+1,by omega,by go_num,rfl,Kz (fun y l=>by
        rw[JX a3,a2.o] at l;rcases JZ.1 l with l|l
        ·exact b4.o y l
        ·rw[JY] at l;rw[l];exact fun h=>i8.o h.2.1),N.trans P⟩
       case measure=>simp[intOf];omega
     have f1:Hid (aP x s):=W;have e9:Op.bytesLess s.toList x.toList=false:=by
      cases h:Op.bytesLess s.toList x.toList
      ·rfl
      ·exact Lv (show aP s x from h) (dH W)
     have j0:(s.toList == x.toList)=false:=by
      cases h:(s.toList == x.toList)
      ·rfl
      ·exact Lv W (by rw[eF h];exact aV _)
     clear W;have m1:(v:Int)-(i.length:Int)= (p:Int):=by have:=c2.o.len;omega
     have m2:IntKind.i64.wrap (p:Int)= (p:Int):=by rw[IntKind.wrap_i64];omega
     refine bf 21 a4.o fun wd P c=>?_
     refine au 0 c ?_;refine au 4 c ?_;refine au 8 c ?_;refine af 12 c ?_;refine au 16 c ?_;refine ak 13 (fun K r=>?_);go_simp
     go_at_call 43
     refine (fZ wd C D E (some ⟨rb,ro,none⟩) F b s d5 (hS.kept (S.o.trans (I.trans (b3.trans (N.trans P)))))).mono ?_;rintro e X ⟨⟨q5,rfl,f2⟩,j1⟩;have K5:=P.trans j1;obtain⟨B,d2,rfl,j2,f3⟩:∃B:Nat,B<b.length/\q5= (B:Int)/\Qj b s=some (b.getD B Qz.zero)/\(b.getD B Qz.zero).name=s:=by
      rcases f2 with⟨B,A,q,h3,j3⟩|⟨_,A⟩
      ·exact⟨B,A,q,h3,j3⟩
      ·obtain⟨_,_,_,_,_,_,_,y,l,_⟩:=e8.o;rw[A] at l;cases l
     clear f2;have m3:(B:Int)<(b.length:Int):=by omega
     have m4:(0:Int)<=(B:Int):=by omega
     obtain⟨a5,hp⟩:=aj (a1 B);have f4:Hid (a5=p↔dQ (aS (Q_ f) (Qj b)) x p s):=by
      show a5=p↔_;have h:=HV.o B d2;have c4:runN b B=s:=f3;rw[c4] at h;have q:=dO.whole (names:=b.map (·.name)) kr (by rw[Lm];exact h) (dH f1.o);rw[<-hp] at q;exact⟨fun e=>by have h3:=q.1 (by omega);rw[e] at h3;exact h3,fun hf=>q.2 p hf⟩
     have f5:=Kz hp;clear hp j2 f3;dsimp only;refine ae r (fun _=>a4.o _ K5) ?_;clear r K;clear c;have c:=a4.o _ K5;by_cases a6:a5=p
     ·have j4:((a5:Int) == (p:Int))=true:=by simp[a6]
      have j5:Hid (gM (fun y=>aS (Q_ f) (Qj b) J y/\aP x y/\dQ (aS (Q_ f) (Qj b)) x p y) s):=by
       have h:=AA (p:=fun y=>aS (Q_ f) (Qj b) J y/\aP x y/\dQ (aS (Q_ f) (Qj b)) x p y) b2.o.1 (fun y l=>(b2.o.2 y).2 l.1) a3 (by rw[a2.o];exact⟨e8.o,f1.o,f4.o.1 a6⟩) b4.o;rw[a2.o] at h;exact h
      clear a6;refine af 14 c ?_;refine bJ 15 ?_ c ?_ ?_;rotate_left
      ·intro u L;try dsimp only at L
       have f9:=World.rowIs.cell L.2.2.2.out d2;try dsimp only at f9
       rw[<-f5.o] at f9;go_simp
       try with_reducible rfl
      try simp only[upP]
      refine af 20 c ?_;refine ah 21 (fun K r=>?_);go_simp
      refine ae r (fun h=>Lv rfl h) ?_;clear r K;refine aB ?_;have c5:=(a4.o _ K5).1;clear a4 c;have k1:K_ X (X.alloc (.cells #[.string s] 9)):=ag _ _;have f6:=Kz (ai i5.o (N.trans (K5.trans k1)));have KK:=Kz (b3.trans (N.trans (K5.trans k1)));have j6:w2.heap.size<=(X.alloc (.cells #[.string s] 9)).heap.size:=KK.out.size;have j7:Hid (∀j u,([.string s]:List LQ)[j]? =some u->(X.alloc (.cells #[.string s] 9)).cell? ((⟨X.heap.size,0,none⟩:Addr).add j)=some u):=fun j u L=>by rw[KZ];exact Xz X #[.string s] 9 j u L
      have j8:Hid (∀u∈([.string s]:List LQ),u.oneCell'=true):=fun u L=>by simp only[Lb,Lc,or_false] at L;subst L;rfl
      clear k1;go_wp2_with (at_builtin;refine wpList_append_own _ rfl (.tmp 91) (.tmp 96) 26 rfl w2.heap.size 9 ic _ 1 16 underlying26 g1 g2 g3 g4 rfl (by decide) (.slice (some ⟨lb,lo,none⟩) i.length M) i.length (i.map Value.string) rfl f6.o ⟨X.heap.size,0,none⟩ 1 1 [.string s] rfl rfl j7.o j8.o (by unfold maxLen;omega) (by omega) j6 ?_;intro v' w6 d3 f7 _;have KP:=aG KK.out (JP _) f6.o f7;have j9:=Kz d3;obtain⟨k3,k5,rfl⟩:=ax d3;clear d3 f7)
      go_roundg p
      case measure=>have:=HQ.o;omega
      case rel=>exact⟨i++ [s],s,k3,k5,by rw[KS];rfl,Kz (c2.o.next e5 j5.o),Kz (by rw[LA,KS];exact j9.o),KP⟩
     ·have j4:((a5:Int) == (p:Int))=false:=by simp;omega
      have k6:Hid (¬dQ (aS (Q_ f) (Qj b)) x p s):=fun h=>a6 (f4.o.2 h)
      clear a6;refine af 14 c ?_;refine bJ 15 ?_ c ?_ ?_;rotate_left
      ·intro u L;try dsimp only at L
       have f9:=World.rowIs.cell L.2.2.2.out d2;try dsimp only at f9
       rw[<-f5.o] at f9;go_simp
       try with_reducible rfl
      try simp only[upP]
      refine af 20 c ?_;refine ah 21 (fun K r=>?_);go_simp
      refine ae r (fun h=>Lv rfl h) ?_;clear r K;refine aB ?_;go_wp2
      go_roundw
      case rel=>exact⟨k+1,by omega,by go_num,rfl,Kz (fun y l=>by
       rw[JX a3,a2.o] at l;rcases JZ.1 l with l|l
       ·exact b4.o y l
       ·rw[JY] at l;rw[l];exact fun h=>k6.o h.2.2),N.trans K5⟩
      case measure=>simp[intOf];omega
def FI(Kq:List Qq)(Kk:List LK)(sl:List Qz)(w':LP)(e:Ending):Prop:=
 ∃(da:LM) (c:Nat) (ns:List LK),e= .returned (.slice da ns.length c)/\Strs w' da ns/\gp Kq Kk sl ns
theorem vg(w:LP)(a:LM)(f:Nat)(b:List Qq)(h:LM)(i:Nat)(Kk:List LK)(d:LM)(j:Nat)(c:List Qz)(D:b.length<=1048576)(N:∀y∈b,y.Fits)(O:Kk.length<=1048576)(P:∀s∈Kk,s.size<=maxLen)(Q:c.length<=1048576)(R:∀x∈c,x.texts.length<=1048576)
  (E:bN w a b) (F:bD w d c) (S:Strs w h Kk):
  Calls prog 8 #[.agg #[.slice a b.length f],.agg #[.slice h Kk.length i,.slice d c.length j]] w fun e w'=>FI b Kk c w' e/\K_ w w':=by
 obtain⟨k,l⟩:=aj ((w.alloc (.cells #[.slice a b.length f] 25)).alloc (.cells #[.slice h Kk.length i,.slice d c.length j] 29));have G:K_ w k:=by rw[l];exact (ag _ _).alloc _
 have T:k.heap.size=w.heap.size+2:=by rw[l];simp
 have p:k.cell? ⟨w.heap.size,0,none⟩=some (.slice a b.length f):=by rw[l,K_.cell (w:=w.alloc (.cells #[.slice a b.length f] 25)) (ag _ _) (by simp)];exact Xz w _ _ 0 _ rfl
 have q:k.cell? ⟨w.heap.size+1,0,none⟩=some (.slice h Kk.length i):=by have:=Xz (w.alloc (.cells #[.slice a b.length f] 25)) #[.slice h Kk.length i,.slice d c.length j] 29 0 _ rfl;rw[KR] at this;rw[l];exact this
 have r:k.cell? ⟨w.heap.size+1,1,none⟩=some (.slice d c.length j):=by have:=Xz (w.alloc (.cells #[.slice a b.length f] 25)) #[.slice h Kk.length i,.slice d c.length j] 29 1 _ rfl;rw[KR] at this;rw[l];exact this
 have A:w.heap.size<k.heap.size:=by omega
 have t:w.heap.size+1<k.heap.size:=by omega
 have B:Hid (∀w',K_ k w'->w'.cell? ⟨w.heap.size,0,none⟩=some (.slice a b.length f)/\w'.cell? ⟨w.heap.size+1,0,none⟩=some (.slice h Kk.length i)/\w'.cell? ⟨w.heap.size+1,1,none⟩=some (.slice d c.length j)/\w.heap.size<w'.heap.size/\w.heap.size+1<w'.heap.size):=fun w' K=>⟨(K.cell A).trans p,(K.cell t).trans q,(K.cell t).trans r,JQ A K.size,JQ t K.size⟩
 have m:=Kz G;clear G T p q r;go_enter func8,ntmps8
 go_upto_region 1 with fail
 rw[<-l];clear l;obtain⟨p,q,r,_,_⟩:=B.o _ (K_.refl _);go_wp2_with fail
 refine (nM _ a f b h i Kk d j c D N O P Q R (E.kept m.o) (F.kept m.o) (S.kept m.o)).mono ?_;rintro e w1 ⟨⟨U,rfl,H⟩,v⟩;have I:=Kz H;clear H p q r A t;obtain⟨p,q,r,A,t⟩:=B.o _ v;cases U
 ·go_wp2
  go_ret
  exact⟨⟨some ⟨w1.heap.size,0,none⟩,0,[],rfl,(fun a2 V=>by cases V),JR _,.inr ⟨fun W=>(by have:=I.o.2 W;cases this),rfl⟩⟩,(m.o.trans v).alloc _⟩
 ·have n:=Kz (I.o.1 rfl);have J:=n.o.good;go_wp2_with fail
  refine (yV w1 a f b h Kk.length i d j c D (by have L:=J.len;have X:=gG n.o.1;omega) (aZ n.o.1) J (E.kept (m.o.trans v)) (F.kept (m.o.trans v))).mono ?_;rintro e w2 ⟨av,Y,Z,rfl,a3,M,C,k2⟩;have a0:=Kz M;have B:=Kz (C.Jo kr);have a1:=Kz (C.len kr);clear M C;go_wp2
  go_ret
  exact⟨⟨_,Y,Z,rfl,a0.o,by have L:=a1.o;have X:=n.o.good.len;have h3:=gG n.o.1;rw[Lm] at L;omega,.inl ⟨n.o,B.o⟩⟩,m.o.trans (v.trans k2)⟩
