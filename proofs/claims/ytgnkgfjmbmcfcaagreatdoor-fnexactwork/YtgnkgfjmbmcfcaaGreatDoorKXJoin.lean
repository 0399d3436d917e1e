import Derived.Test.YtgnkgfjmbmcfcaaGreatDoorKVNeeds
import Derived.Test.YtgnkgfjmbmcfcaaGreatDoorKBApp
set_option maxRecDepth 100000
set_option maxHeartbeats 25600000
namespace Go.Proofs.YtgnkgfjmbmcfcaaGreatDoor
open Go.RowKit Go.Proofs.Tryz
theorem xR{w:Qy}{base base':Nat}{e:TypeId}{size n:Nat}{v:QA}{a:List QA}(h:w.ownsRow base e size v n a)(b:base'<=base):w.ownsRow base' e size v n a:=by
 refine⟨h.1, ?_⟩;rcases h.2 with c|⟨g,d,f,i,j,k⟩
 ·exact .inl c
 ·exact .inr ⟨g,d,f,i,OX b j,k⟩
def Lm(w w':Qy)(v v':QA)(l r:List Qw):Prop:=∀B,B<=w.heap.size->w.ownsRow B 9 1 v l.length (l.map Value.string)->w'.ownsRow B 9 1 v' r.length (r.map Value.string)
theorem AL(w:Qy)(b o cap:Nat)(l:List Qw)(x:Qw)(hl:l.length<=100000)(e5:l.length<=cap)(ha:oN l)(R:Strs w (some ⟨b,o,none⟩) l):
  Calls prog 49 #[.slice (some ⟨b,o,none⟩) l.length cap,.string x] w fun e w'=>∃p s c' r,e= .returned (.slice (some ⟨p,s,none⟩) r.length c')/\r.length<=c'/\Gb l x r/\Strs w' (some ⟨p,s,none⟩) r/\Lm w w' (.slice (some ⟨b,o,none⟩) l.length cap) (.slice (some ⟨p,s,none⟩) r.length c') l r/\K_ w w':=by
 have HA:=Kz ha;clear ha;go_enter func49,ntmps49
 go_wp2
 go_loop [5] (fun n=>∃k:Nat,k<=l.length/\n= .int .i64 k/\Hid (∀y∈l.take k,aH y x)) (fun n=>l.length-(intOf n).toNat)
 case atStart=>exact⟨0,OW _,rfl,Kz fun y T=>by cases T⟩
 case round=>
  obtain⟨k,hk,rfl,U⟩:=hrel;by_cases S:k<l.length
  ·obtain⟨b1,o1,V,hb,hc⟩:=R k S;cases V;obtain⟨y,T⟩:=ag (l.getD k ByteArray.empty);rw[<-T] at hc;have d9:l[k]=y:=by rw[T];simp[List.getD,S]
   have HY:=Kz d9;clear T d9;have f5:(k:Int)<(l.length:Int):=by omega
   cases e0:(Op.bytesLess y.toList x.toList)
   ·have b0:=Kz e0;cases e1:(y.toList == x.toList)
    ·have b2:=Kz e1;have X:Hid (∀z∈l.drop k,aH x z):=fun z i=>by
      have e3:aH x y:=by
       rcases b_ x y with g|g|g
       ·exact g
       ·exact Qi g.symm (ym b2.o)
       ·unfold aH at g;rw[b0.o] at g;cases g
      rw[List.drop_eq_getElem_cons S,HY.o] at i;rcases PS.1 i with rfl|i
      ·exact e3
      ·obtain⟨e6,hj,rfl⟩:=Ph i;rw[List.getElem_drop];have h2:=Pg.1 HA.o k (k+1+e6) S (by simp at hj;omega) (by omega);rw[HY.o] at h2;exact gV e3 h2
     have b3:Hid (x∉l):=fun h=>by
      rw[<-Qa k l] at h;rcases Pe.1 h with h|h
      ·exact aI x (U.o x h)
      ·exact aI x (X.o x h)
     obtain⟨a,c,j,b4⟩:∃a c,l=a++c/\k=a.length:=⟨l.take k,l.drop k,(Qa k l).symm,by simp;omega⟩;subst b4;have b5:Hid (Gb l x (a++x :: c)):=by
      have V:l.take a.length=a:=by rw[j];simp
      have e2:l.drop a.length=c:=by rw[j];simp
      refine .inr ⟨b3.o,a.length,hk,by rw[V,e2],U.o,X.o⟩
     have b6:l.length=a.length+c.length:=by rw[j,PM]
     have b7:Hid (∀W,K_ w W->Strs W (some ⟨b,o,none⟩) a):=fun W K n Y=>by
      obtain⟨p,s,A,B,C⟩:=(R.kept K) n (by omega);refine⟨p,s,A,B, ?_⟩;rw[C,j];simp[List.getD,PY Y]
     have Z:Hid (∀W,K_ w W->Strs W (if cap=a.length then (some ⟨b,o,none⟩:Qx) else some ⟨b,o+a.length,none⟩) c):=fun W K n Y=>by
      obtain⟨p,s,A,B,C⟩:=(R.kept K) (a.length+n) (by omega);cases A;rw[Qh (by omega)];refine⟨b,o+a.length,rfl,B, ?_⟩;rw[Nat.add_assoc,C,j];simp[List.getD,PZ]
     have a0:l.length-a.length=c.length:=by omega
     have e7:a.length<=cap:=by omega
     have e8:a.length<=l.length:=by omega
     have e9:a.length<=100000:=by omega
     have f0:c.length<=100000:=by omega
     have b8:=Kz a0;obtain⟨D,E,F,G,H⟩:=aN Tryz.fJ;have a1:Hid ((w.alloc (.cells #[] 9)).ownsRow w.heap.size 9 1 (.slice (some ⟨w.heap.size,0,none⟩) 0 0) 0 (([]:List Qw).map Value.string)):=Pz w #[] 0 (OU _) (OW _) rfl;have b9:w.heap.size<=(w.alloc (.cells #[] 9)).heap.size:=by simp
     have a2:Hid (K_ w (w.alloc (.cells #[] 9))):=ak _ _;clear j b6 a0;go_upto_region 7 with (at_builtin;refine iH rfl (.tmp 34) (.tmp 37) 25 rfl w.heap.size 9 D _ 16 underlying25 E F G H rfl (.slice (some ⟨w.heap.size,0,none⟩) 0 0) 0 (([]:List Qw).map Value.string) rfl a1.o (some ⟨b,o,none⟩) cap a rfl (b7.o _ a2.o) (by unfold maxLen;omega) (by omega) b9 ?_;intro v1 t v a3 c0;rw[PD] at v;have c1:=Kz v;have c2:=aC a2.o (OU _) a1.o a3;obtain⟨c3,c4,rfl⟩:=aG v;clear v a3 c0)
     refine Qk.region (by kernel_rfl) (fun _=>True) 8 trivial (fun m=>?_);have KD:K_ t t.drew:=bB t;generalize c5:t.drew=f at KD⊢;clear c5;refine ae 0 m ?_;refine ae 1 m ?_;refine ae 4 m ?_;refine ae 5 m ?_;refine ae 6 m ?_;generalize hgd:(if cap=a.length then (some ⟨b,o,none⟩:Qx) else some ⟨b,o+a.length,none⟩)=c6 at Z⊢;clear hgd;refine ay 2 (fun K d=>?_);go_simp
     have K5:K_ f (f.alloc (.cells #[.string x] 9)):=ak _ _;have I:Hid (Strs (f.alloc (.cells #[.string x] 9)) (some ⟨f.heap.size,0,none⟩) [x]):=fun q hq=>by
      obtain rfl:q=0:=by simpa using hq
      exact⟨f.heap.size,0,rfl,by simp,X_ f #[.string x] 9 0 _ rfl⟩
     refine d.out _ _ (fun _=>trivial) ?_;clear d K m;have J:=KD.trans K5;have L:=Kz (ai c1.o J);obtain⟨eb,a4⟩:=ag f.heap.size;rw[<-a4] at I⊢;generalize c7:f.alloc (.cells #[.string x] 9)=w5 at I J L⊢;clear c7 K5 a4;have a5:=c2.trans J;have c8:=a5.size;try simp only[Act.put,upA,upB,upC]
     refine ax 3 (fun K d=>?_);refine fH (.tmp 39) (.tmp 41) 25 rfl w.heap.size 9 D _ 16 underlying25 E F G H rfl (.slice c3 a.length c4) a.length (([]:List Qw).map Value.string++a.map Value.string) rfl L.o (some ⟨eb,0,none⟩) 1 [x] rfl I.o (by unfold maxLen;simp;omega) (by simp;omega) c8 ?_;intro v6 w6 M a6 c9;have a7:=Kz M;have N:=aC a5 (OU _) L.o a6;obtain⟨d0,d1,rfl⟩:=aG M;have d2:=N.size;refine d.out _ _ (fun _=>trivial) ?_;clear d K M a6 c9;try simp only[Act.put,upA,upB,upC]
     refine ax 7 (fun K d=>?_);refine fH (.tmp 42) (.tmp 45) 25 rfl w.heap.size 9 D _ 16 underlying25 E F G H rfl (.slice d0 (a.length+ [x].length) d1) (a.length+ [x].length) ((([]:List Qw).map Value.string++a.map Value.string)++ [x].map Value.string) rfl a7.o c6 (cap-a.length) c (by rw[<-b8.o];rfl) (Z.o _ N) (by unfold maxLen;simp;omega) (by simp;omega) d2 ?_;intro v7 w7 a8 a9 d3;have d4:=Kz a8;have d5:=aC N (OU _) a7.o a9;refine d.out _ _ (fun _=>trivial) ?_;clear d K a8 a9 d3;try simp only[Act.put,upA,upB,upC]
     refine ay 8 (fun K d=>?_);go_simp
     refine d.out _ _ (fun h=>Qi rfl h) ?_;clear d K;try simp only[Act.put,upA,upB,upC]
     refine az ?_;go_wp2
     go_ret
     have d6:(a++x :: c).length=a.length+ [x].length+c.length:=by simp;omega
     have O:w7.ownsRow w.heap.size 9 1 v7 (a++x :: c).length ((a++x :: c).map Value.string):=by
      have h:=d4.o;rw[d6];have e:(a++x :: c).map Value.string= ((([]:List Qw).map Value.string++a.map Value.string)++ [x].map Value.string)++c.map Value.string:=by simp
      rw[e];exact h
     rcases O.2 with⟨_,h0⟩|⟨g,d7,f1,P,_,_,d8,_,_,_⟩
     ·simp at h0
     ·obtain⟨f2,f3,Q,h9⟩:=bM O;rw[P] at Q;simp only[PO,true_and] at Q;rw[<-Q.1] at h9;exact⟨g,0,d7,_,by rw[P];rfl,d8,b5.o,h9,fun f4 hB _=>by rw[<-P];exact xR O hB,d5⟩
    ·have b2:=Kz (iX e1);go_wp2
     go_ret
     exact⟨b,o,cap,l,rfl,e5,.inl ⟨by rw[<-b2.o,<-HY.o];exact Pf S,rfl⟩,R,fun _ _ h=>h,K_.refl _⟩
   ·have b0:=Kz e0;go_wp2
    go_round
    case rel=>
     refine⟨k+1,by omega,by go_num,Kz fun z i=>?_⟩;rw[Pb S] at i;rcases Pe.1 i with i | i
     ·exact U.o z i
     ·rw[Pd,HY.o] at i;rw[i];exact b0.o
    case measure=>simp[intOf];omega
  ·have e4:k=l.length:=by omega
   have X:Hid (∀z∈l.drop k,aH x z):=fun z i=>by rw[e4,List.drop_length] at i;cases i
   have b3:Hid (x∉l):=fun h=>by
    rw[<-Qa k l] at h;rcases Pe.1 h with h|h
    ·exact aI x (U.o x h)
    ·exact aI x (X.o x h)
   obtain⟨a,c,j,b4⟩:∃a c,l=a++c/\k=a.length:=⟨l.take k,l.drop k,(Qa k l).symm,by simp;omega⟩;subst b4;have b5:Hid (Gb l x (a++x :: c)):=by
    have V:l.take a.length=a:=by rw[j];simp
    have e2:l.drop a.length=c:=by rw[j];simp
    refine .inr ⟨b3.o,a.length,hk,by rw[V,e2],U.o,X.o⟩
   have b6:l.length=a.length+c.length:=by rw[j,PM]
   have b7:Hid (∀W,K_ w W->Strs W (some ⟨b,o,none⟩) a):=fun W K n Y=>by
    obtain⟨p,s,A,B,C⟩:=(R.kept K) n (by omega);refine⟨p,s,A,B, ?_⟩;rw[C,j];simp[List.getD,PY Y]
   have Z:Hid (∀W,K_ w W->Strs W (if cap=a.length then (some ⟨b,o,none⟩:Qx) else some ⟨b,o+a.length,none⟩) c):=fun W K n Y=>by
    obtain⟨p,s,A,B,C⟩:=(R.kept K) (a.length+n) (by omega);cases A;rw[Qh (by omega)];refine⟨b,o+a.length,rfl,B, ?_⟩;rw[Nat.add_assoc,C,j];simp[List.getD,PZ]
   have a0:l.length-a.length=c.length:=by omega
   have e7:a.length<=cap:=by omega
   have e8:a.length<=l.length:=by omega
   have e9:a.length<=100000:=by omega
   have f0:c.length<=100000:=by omega
   have b8:=Kz a0;obtain⟨D,E,F,G,H⟩:=aN Tryz.fJ;have a1:Hid ((w.alloc (.cells #[] 9)).ownsRow w.heap.size 9 1 (.slice (some ⟨w.heap.size,0,none⟩) 0 0) 0 (([]:List Qw).map Value.string)):=Pz w #[] 0 (OU _) (OW _) rfl;have b9:w.heap.size<=(w.alloc (.cells #[] 9)).heap.size:=by simp
   have a2:Hid (K_ w (w.alloc (.cells #[] 9))):=ak _ _;clear j b6 a0 e4;go_upto_region 7 with (at_builtin;refine iH rfl (.tmp 34) (.tmp 37) 25 rfl w.heap.size 9 D _ 16 underlying25 E F G H rfl (.slice (some ⟨w.heap.size,0,none⟩) 0 0) 0 (([]:List Qw).map Value.string) rfl a1.o (some ⟨b,o,none⟩) cap a rfl (b7.o _ a2.o) (by unfold maxLen;omega) (by omega) b9 ?_;intro v1 t v a3 c0;rw[PD] at v;have c1:=Kz v;have c2:=aC a2.o (OU _) a1.o a3;obtain⟨c3,c4,rfl⟩:=aG v;clear v a3 c0)
   refine Qk.region (by kernel_rfl) (fun _=>True) 8 trivial (fun m=>?_);have KD:K_ t t.drew:=bB t;generalize c5:t.drew=f at KD⊢;clear c5;refine ae 0 m ?_;refine ae 1 m ?_;refine ae 4 m ?_;refine ae 5 m ?_;refine ae 6 m ?_;generalize hgd:(if cap=a.length then (some ⟨b,o,none⟩:Qx) else some ⟨b,o+a.length,none⟩)=c6 at Z⊢;clear hgd;refine ay 2 (fun K d=>?_);go_simp
   have K5:K_ f (f.alloc (.cells #[.string x] 9)):=ak _ _;have I:Hid (Strs (f.alloc (.cells #[.string x] 9)) (some ⟨f.heap.size,0,none⟩) [x]):=fun q hq=>by
    obtain rfl:q=0:=by simpa using hq
    exact⟨f.heap.size,0,rfl,by simp,X_ f #[.string x] 9 0 _ rfl⟩
   refine d.out _ _ (fun _=>trivial) ?_;clear d K m;have J:=KD.trans K5;have L:=Kz (ai c1.o J);obtain⟨eb,a4⟩:=ag f.heap.size;rw[<-a4] at I⊢;generalize c7:f.alloc (.cells #[.string x] 9)=w5 at I J L⊢;clear c7 K5 a4;have a5:=c2.trans J;have c8:=a5.size;try simp only[Act.put,upA,upB,upC]
   refine ax 3 (fun K d=>?_);refine fH (.tmp 39) (.tmp 41) 25 rfl w.heap.size 9 D _ 16 underlying25 E F G H rfl (.slice c3 a.length c4) a.length (([]:List Qw).map Value.string++a.map Value.string) rfl L.o (some ⟨eb,0,none⟩) 1 [x] rfl I.o (by unfold maxLen;simp;omega) (by simp;omega) c8 ?_;intro v6 w6 M a6 c9;have a7:=Kz M;have N:=aC a5 (OU _) L.o a6;obtain⟨d0,d1,rfl⟩:=aG M;have d2:=N.size;refine d.out _ _ (fun _=>trivial) ?_;clear d K M a6 c9;try simp only[Act.put,upA,upB,upC]
   refine ax 7 (fun K d=>?_);refine fH (.tmp 42) (.tmp 45) 25 rfl w.heap.size 9 D _ 16 underlying25 E F G H rfl (.slice d0 (a.length+ [x].length) d1) (a.length+ [x].length) ((([]:List Qw).map Value.string++a.map Value.string)++ [x].map Value.string) rfl a7.o c6 (cap-a.length) c (by rw[<-b8.o];rfl) (Z.o _ N) (by unfold maxLen;simp;omega) (by simp;omega) d2 ?_;intro v7 w7 a8 a9 d3;have d4:=Kz a8;have d5:=aC N (OU _) a7.o a9;refine d.out _ _ (fun _=>trivial) ?_;clear d K a8 a9 d3;try simp only[Act.put,upA,upB,upC]
   refine ay 8 (fun K d=>?_);go_simp
   refine d.out _ _ (fun h=>Qi rfl h) ?_;clear d K;try simp only[Act.put,upA,upB,upC]
   refine az ?_;go_wp2
   go_ret
   have d6:(a++x :: c).length=a.length+ [x].length+c.length:=by simp;omega
   have O:w7.ownsRow w.heap.size 9 1 v7 (a++x :: c).length ((a++x :: c).map Value.string):=by
    have h:=d4.o;rw[d6];have e:(a++x :: c).map Value.string= ((([]:List Qw).map Value.string++a.map Value.string)++ [x].map Value.string)++c.map Value.string:=by simp
    rw[e];exact h
   rcases O.2 with⟨_,h0⟩|⟨g,d7,f1,P,_,_,d8,_,_,_⟩
   ·simp at h0
   ·obtain⟨f2,f3,Q,h9⟩:=bM O;rw[P] at Q;simp only[PO,true_and] at Q;rw[<-Q.1] at h9;exact⟨g,0,d7,_,by rw[P];rfl,d8,b5.o,h9,fun f4 hB _=>by rw[<-P];exact xR O hB,d5⟩
theorem sS.nil{W:aZ}{σ:Env}{n:Qw}(h:∀s,¬bC W σ n s):sS W σ n []:=⟨List.Pairwise.nil,fun s=>⟨fun e=>(by cases e),fun e=>(h s e).elim⟩⟩
def Kn(Kq:List Qz)(sl:List Q_)(name:Qw)(w w':Qy)(e:Ending):Prop:=
 ∃(b o c:Nat) (ns:List Qw),e= .returned (.slice (some ⟨b,o,none⟩) ns.length c)/\ns.length<=c/\Strs w' (some ⟨b,o,none⟩) ns/\sS (Kk Kq) (Qq sl) name ns/\w'.ownsRow w.heap.size 9 1 (.slice (some ⟨b,o,none⟩) ns.length c) ns.length (ns.map Value.string)
def Jq(Kq:List Qz)(sl:List Q_)(name:Qw)(w':Qy)(e:Ending):Prop:=
 ∃(b o c:Nat) (ns:List Qw),e= .returned (.slice (some ⟨b,o,none⟩) ns.length c)/\ns.length<=c/\Strs w' (some ⟨b,o,none⟩) ns/\sS (Kk Kq) (Qq sl) name ns
theorem Et(w:Qy)(a:Qx)(cap:Nat)(Kq:List Qz)(x:Qx)(y rc:Nat)(d:Qx)(dc:Nat)(g:List Q_)(name:Qw)(f2:Kq.length<=1048576)(d1:g.length<=1048576)(f3:a_ (Kk Kq))(hg:dU Kq g)(hN:bJ w a Kq)(hS:gD w d g):
  Calls prog 103 #[.agg #[.slice a Kq.length cap],.agg #[.slice x y rc,.slice d g.length dc],.string name] w fun e w'=>Kn Kq g name w w' e/\K_ w w':=by
 obtain⟨h,G⟩:=ag ((w.alloc (.cells #[.slice a Kq.length cap] 37)).alloc (.cells #[.slice x y rc,.slice d g.length dc] 53));have kB:K_ w h:=by rw[G];exact (ak _ _).alloc _
 have f4:h.heap.size=w.heap.size+2:=by rw[G];simp
 have J:h.cell? ⟨w.heap.size,0,none⟩=some (.slice a Kq.length cap):=by rw[G,K_.cell (w:=w.alloc (.cells #[.slice a Kq.length cap] 37)) (ak _ _) (by simp)];exact X_ w _ _ 0 _ rfl
 have L:h.cell? ⟨w.heap.size+1,0,none⟩=some (.slice x y rc):=by have:=X_ (w.alloc (.cells #[.slice a Kq.length cap] 37)) #[.slice x y rc,.slice d g.length dc] 53 0 _ rfl;rw[PL] at this;rw[G];exact this
 have M:h.cell? ⟨w.heap.size+1,1,none⟩=some (.slice d g.length dc):=by have:=X_ (w.alloc (.cells #[.slice a Kq.length cap] 37)) #[.slice x y rc,.slice d g.length dc] 53 1 _ rfl;rw[PL] at this;rw[G];exact this
 have z0:w.heap.size<h.heap.size:=by omega
 have z1:w.heap.size+1<h.heap.size:=by omega
 have C:Hid (∀w',K_ h w'->w'.cell? ⟨w.heap.size,0,none⟩=some (.slice a Kq.length cap)/\w'.cell? ⟨w.heap.size+1,0,none⟩=some (.slice x y rc)/\w'.cell? ⟨w.heap.size+1,1,none⟩=some (.slice d g.length dc)/\w.heap.size<w'.heap.size/\w.heap.size+1<w'.heap.size):=fun w' K=>⟨(K.cell z0).trans J,(K.cell z1).trans L,(K.cell z1).trans M,OV z0 K.size,OV z1 K.size⟩
 have V:K_ h (h.alloc (.cells #[] 9)):=ak _ _;have b1:Hid (∀u,K_ (h.alloc (.cells #[] 9)) u->u.ownsRow w.heap.size 9 1 (.slice (some ⟨h.heap.size,0,none⟩) 0 0) 0 (([]:List Qw).map Value.string)):=fun u k=>ai (xR (Pz h #[] 0 (OU _) (OW _) rfl) kB.size) k
 have⟨t,f5⟩:=aD kB hg;clear kB f4 J L M hg;go_enter func103,ntmps103
 go_upto_region 1 with fail
 rw[<-G];clear G;go_upto_region 2 with fail
 obtain⟨WE,d2⟩:=ag (h.alloc (.cells #[] 9));rw[<-d2] at V b1⊢;clear d2;obtain⟨J,L,M,W,X⟩:=C.o _ V;go_wp2_with fail
 refine (jC WE x y rc d dc g name d1 (hS.kept (t.o.trans V))).mono ?_;rintro e w1 ⟨⟨p,rfl,hp⟩,k1⟩;have A:=V.trans k1;have a4:=Kz (b1.o _ k1);clear J L M W X k1 V b1;obtain⟨J,L,M,W,X⟩:=C.o _ A;rcases hp with⟨k,hk,rfl,N,b2⟩|⟨rfl,N⟩;rotate_left
 ·have O:=Kz N;clear N;go_wp2
  go_ret
  exact⟨⟨h.heap.size,0,0,[],rfl,OU _,(fun i H=>by cases H),(sS.nil fun s j=>by obtain⟨r,_,P,_⟩:=j;rw[O.o] at P;cases P),a4.o⟩,t.o.trans A⟩
 obtain⟨r,P⟩:=ag (g.getD k Q_.zero);rw[<-P] at N b2;obtain⟨rb,ro,xa,xc,e1,f6,Y,_,_⟩:=(hS.kept (t.o.trans A)) k hk;rw[<-P] at Y;subst e1;have I:=Y 1 _ rfl;have t4:=Y 4 _ rfl;have t5:=Y 5 _ rfl;have i4:(k:Int)<(g.length:Int):=by omega
 have O:=Kz N;clear N Y P;by_cases Q:r.over=true\/r.Zq=0
 ·have b3:=Kz Q;have d3:Hid (sS (Kk Kq) (Qq g) name []):=sS.nil fun s j=>by
   obtain⟨r',_,B,b,f,_⟩:=j;rw[O.o] at B;cases B;rcases b3.o with v|v
   ·rw[b] at v;cases v
   ·exact f v
  have Z:r.over=true\/(r.over=false/\r.Zq=0):=by
   rcases Q with j|j
   ·exact .inl j
   ·cases b:r.over
    ·exact .inr ⟨rfl,j⟩
    ·exact .inl rfl
  clear Q;rcases Z with j|⟨j,f⟩
  ·rw[j] at I;go_wp2
   go_ret
   exact⟨⟨h.heap.size,0,0,[],rfl,OU _,(fun i H=>by cases H),d3.o,a4.o⟩,t.o.trans A⟩
  ·rw[j] at I;rw[f] at t5;go_wp2
   go_ret
   exact⟨⟨h.heap.size,0,0,[],rfl,OU _,(fun i H=>by cases H),d3.o,a4.o⟩,t.o.trans A⟩
 have ho:r.over=false:=by
  cases b:r.over
  ·rfl
  ·exact Qi (.inl b) Q
 have hv:r.Zq≠0:=fun e=>Q (.inr e)
 have f7:(r.Zq == 0)=false:=by simpa using hv
 obtain⟨i5,R,d4,a5⟩:=(f5.o.good r (bN O.o).1).act;rw[b2] at R;obtain⟨a0,hj,d5,d6,rfl⟩:=gm R;obtain⟨S,hy⟩:=ag (Kq.getD a0 Qz.zero);rw[<-hy] at R a5;dsimp only at a5;obtain⟨nb,nq,cs,f8,f9,Z,na,nc,rfl,b4⟩:=hN a0 hj;subst f8;rw[<-hy] at Z b4;obtain⟨D,b5⟩:∃D:Nat,r.at'= (D:Int):=⟨r.at'.toNat,by omega⟩;have g0:D<S.steps.length:=by omega
 obtain⟨tb,tq,i6,g1,g2,b6,aa,ca,ac,cc,rfl,b7,_,_⟩:=b4 D g0;subst g1;obtain⟨s,hs⟩:=ag (S.steps.getD D Xq.zero);rw[<-hs] at b6 b7;have n2:=Z 2 _ rfl;have m0:=b6 0 _ rfl;rw[PR] at m0;have b8:Hid (stepOf ⟨S.cost,S.steps⟩ r.at'=s):=by show _=_;unfold stepOf;rw[b5,hs];rfl
 have i7:s.asks.length<=5:=by have j:=(jM (f3 _ _ R).1 d4 a5).1;rw[b8.o] at j;exact j
 have⟨g3,g4,b9,g5,b3⟩:=dX d5 d6 R hv ho;have i8:(a0:Int)<(Kq.length:Int):=by omega
 have i9:(D:Int)<(S.steps.length:Int):=by omega
 rw[b5] at t4;rw[ho] at I;have KN:=t.o.trans A;have a6:Hid (∀w',K_ w1 w'->w'.cell? ⟨w.heap.size,0,none⟩=some (.slice (some ⟨nb,nq,none⟩) Kq.length cap)/\w'.cell? ⟨w.heap.size+1,1,none⟩=some (.slice (some ⟨rb,ro,none⟩) g.length dc)/\w'.cell? ⟨rb,ro+k*7+4,none⟩=some (.int .i64 (D:Int))/\w'.cell? ⟨nb,nq+a0*3+2,none⟩=some (.slice (some ⟨tb,tq,none⟩) S.steps.length nc)/\w'.cell? ⟨tb,tq+D*8,none⟩=some (.slice aa s.asks.length ca)):=fun w' K=>⟨(C.o w' (A.trans K)).1,(C.o w' (A.trans K)).2.2.1,(K.cell f6).trans t4,((KN.trans K).cell f9).trans n2,((KN.trans K).cell g2).trans m0⟩
 have g6:=Kz (hN.kept KN);have g7:=Kz b7;clear Q R hy Z b4 b6 b7 hs b5 d4 a5 hv ho d5 d6 n2 m0 b2;go_upto_region 5 with fail
 clear I t4 t5 f7 J L M W X;refine aR 18 a6.o fun wd KD l=>?_
 refine af 0 l ?_;refine af 9 l ?_;refine ae 13 l ?_;refine ae 14 l ?_;refine ax 4 (fun K n=>?_);go_simp
 go_at_call 55
 refine (gp wd (some ⟨nb,nq,none⟩) cap Kq name f2 (g6.o.kept KD)).mono ?_;rintro e w2 ⟨⟨a1,rfl,hq⟩,k2⟩;have K2:=KD.trans k2;obtain rfl:a1= (a0:Int):=by
  rcases hq with⟨k',_,e',_,b,f⟩|⟨_,b⟩
  ·rw[e',nQ g3.o g4.o b f]
  ·rw[b9.o] at b;cases b
 clear hq;dsimp only;refine n.out _ _ (fun _=>a6.o _ K2) ?_;clear n K;try simp only[Act.put,upA,upB,upC]
 clear l;have l:=a6.o _ K2;refine af 5 l ?_;refine ae 15 l ?_;refine ae 16 l ?_;refine ae 17 l ?_;refine ay 18 (fun K n=>?_);go_simp
 refine n.out _ _ (fun j=>Qi rfl j) ?_;clear n K;try simp only[Act.put,upA,upB,upC]
 refine az ?_;clear l;have g8:=A.trans K2;have g9:Hid (∀c2,K_ w2 c2->Strs c2 aa s.asks):=fun c2 K=>g7.o.kept (KN.trans (K2.trans K))
 have d7:Hid (Strs w2 (some ⟨h.heap.size,0,none⟩) []):=fun i H=>by cases H
 go_wp2
 go_loopg [7,10] s.asks.length (fun gg x7 h0 wr=>∃(i E o c:Nat) (m:List Qw),h0= .int .i64 (i:Int)/\i+gg=s.asks.length/\x7= .slice (some ⟨E,o,none⟩) m.length c/\m.length<=c/\m.length<=i/\Hid (oN m)/\Hid (∀z,z∈m↔z∈s.asks.take i/\Ni (Qq g) z)/\Hid (Strs wr (some ⟨E,o,none⟩) m)/\Hid (wr.ownsRow w.heap.size 9 1 (.slice (some ⟨E,o,none⟩) m.length c) m.length (m.map Value.string))/\K_ w2 wr)
 case atStart=>exact⟨0,h.heap.size,0,0,[],rfl,by omega,rfl,OU _,OU _,Kz List.Pairwise.nil,Kz (fun z=>by simp),d7,Kz (ai a4.o K2),K_.refl _⟩
 case round=>
  clear d7 a6;obtain⟨i,E,o,c,m,rfl,j0,rfl,a7,j1,a2,a8,d8,d9,Kw⟩:=hrel;have F:=g8.trans Kw;by_cases c3:i<s.asks.length
  ·obtain⟨ab,ao,rfl,e0,a9⟩:=(g9.o wr Kw) i c3;obtain⟨a3,hx⟩:=ag (s.asks.getD i ByteArray.empty);rw[<-hx] at a9;have e2:s.asks[i]=a3:=by rw[hx];simp[List.getD,c3]
   have h1:=Kz e2;have j2:(i:Int)<(s.asks.length:Int):=by omega
   have c4:Hid (∀w',K_ wr w'->w'.cell? ⟨w.heap.size+1,0,none⟩=some (.slice x y rc)/\w'.cell? ⟨w.heap.size+1,1,none⟩=some (.slice (some ⟨rb,ro,none⟩) g.length dc)/\w'.cell? ⟨ab,ao+i,none⟩=some (.string a3)):=fun w' K=>⟨(C.o w' (F.trans K)).2.1,(C.o w' (F.trans K)).2.2.1,(K.cell e0).trans a9⟩
   obtain⟨_,c1,e3,W,X⟩:=C.o wr F;clear hx e2;go_upto_region 9 with fail
   clear c1 e3 a9;refine aR 6 c4.o fun wd KD l=>?_
   refine af 0 l ?_;refine ae 4 l ?_;refine ax 5 (fun K n=>?_);go_simp
   go_at_call 52
   refine (jC wd x y rc (some ⟨rb,ro,none⟩) dc g a3 d1 (hS.kept (t.o.trans (F.trans KD)))).mono ?_;rintro e w3 ⟨⟨a1,rfl,hq⟩,k3⟩;have q:=KD.trans k3;refine n.out _ _ (fun _=>c4.o _ q) ?_;clear n K l;try simp only[Act.put,upA,upB,upC]
   refine ay 6 (fun K n=>?_);go_simp
   refine n.out _ _ (fun j=>Qi rfl j) ?_;clear n K;try simp only[Act.put,upA,upB,upC]
   refine az ?_;obtain⟨c0,c1,e3,W,X⟩:=C.o w3 (F.trans q);have a9:=(c4.o _ q).2.2;have j3:ab<w3.heap.size:=OV e0 q.size;have c5:=Kz (d8.o.kept q);have c6:=Kz (ai d9.o q);have h2:Hid (w.heap.size<=w3.heap.size):=(t.o.trans (F.trans q)).size;have e5:∀z,z∈s.asks.take (i+1)↔z∈s.asks.take i\/z=a3:=fun z=>by rw[Pb c3,h1.o];simp
   have c7:=Kz e5;clear e5 k3;rcases hq with⟨k',h3,rfl,T,_⟩|⟨rfl,T⟩
   ·obtain⟨r',B⟩:=ag (g.getD k' Q_.zero);rw[<-B] at T;obtain⟨j4,j5,j6,j7,e4,j8,c8,_,_⟩:=(hS.kept (t.o.trans (F.trans q))) k' h3;cases e4;rw[<-B] at c8;have I:=c8 1 _ rfl;have j9:(k':Int)<(g.length:Int):=by omega
    have k0:¬((k':Int)<0):=by omega
    have b0:=Kz T;clear T c8 B;cases U:r'.over
    ·rw[U] at I;have c9:=Kz U;clear U;go_wp2_with fail
     refine (AL w3 E o c m a3 (by omega) a7 a2.o c5.o).mono ?_;rintro e w4 ⟨h5,o4,h6,r4,rfl,h7,d0,e6,e7,h8⟩;have h9:=Kz (e7 _ h2.o c6.o);obtain⟨e8,e9⟩:=d0.asc a2.o;have k4:r4.length<=m.length+1:=by
      rcases d0 with⟨_,rfl⟩|⟨_,a1,hq,rfl,_,_⟩
      ·omega
      ·simp;omega
     have⟨i0,i1,i2⟩:=bA e8 e9 e6;have K4:=Kw.trans (q.trans h8);clear e8 e9 e6 d0 e7;go_wp2
     go_roundg (gk-1)
     case measure=>omega
     case rel=>exact⟨i+1,h5,o4,h6,r4,by go_num,by omega,rfl,h7,by omega,i0,Kz (fun z=>by
      rw[i1.o,a8.o,c7.o];constructor
      ·rintro (⟨b,f⟩|rfl)
       ·exact⟨.inl b,f⟩
       ·exact⟨.inr rfl,_,b0.o,c9.o⟩
      ·rintro⟨b|rfl,f⟩
       ·exact .inl ⟨b,f⟩
       ·exact .inr rfl),i2,h9,K4⟩
    ·rw[U] at I;have c9:=Kz U;clear U;go_wp2
     go_roundg (gk-1)
     case measure=>omega
     case rel=>exact⟨i+1,E,o,c,m,by go_num,by omega,rfl,a7,by omega,a2,Kz (fun z=>by
      rw[a8.o,c7.o];constructor
      ·rintro⟨b,f⟩;exact⟨.inl b,f⟩
      ·rintro⟨b|rfl,f⟩
       ·exact⟨b,f⟩
       ·obtain⟨a1,v,h4⟩:=f;rw[b0.o] at v;cases v;rw[c9.o] at h4;cases h4),c5,c6,Kw.trans q⟩
   ·have b0:=Kz T;clear T;go_wp2
    go_roundg (gk-1)
    case measure=>omega
    case rel=>exact⟨i+1,E,o,c,m,by go_num,by omega,rfl,a7,by omega,a2,Kz (fun z=>by
     rw[a8.o,c7.o];constructor
     ·rintro⟨b,f⟩;exact⟨.inl b,f⟩
     ·rintro⟨b|rfl,f⟩
      ·exact⟨b,f⟩
      ·obtain⟨a1,v,h4⟩:=f;rw[b0.o] at v;cases v),c5,c6,Kw.trans q⟩
  ·have f0:s.asks.take i=s.asks:=PG (by omega);have i3:=Kz f0;clear f0;go_wp2
   go_ret
   refine⟨⟨E,o,c,m,rfl,a7,d8.o,⟨a2.o,fun z=>?_⟩,d9.o⟩,t.o.trans F⟩;rw[a8.o,i3.o];constructor
   ·rintro⟨b,f⟩;exact⟨r,_,O.o,b3.o,g5.o,b9.o,by rw[b8.o];exact b,f⟩
   ·rintro⟨r',A',B,_,_,f1,b,f⟩;rw[O.o] at B;cases B;rw[b9.o] at f1;cases f1;rw[b8.o] at b;exact⟨b,f⟩
theorem ve(w:Qy)(a:Qx)(cap:Nat)(Kq:List Qz)(c:Qx)(f rc:Nat)(d:Qx)(dc:Nat)(b:List Q_)(name:Qw)(g:Kq.length<=1048576)(h:b.length<=1048576)(i:a_ (Kk Kq))(j:dU Kq b)(k:bJ w a Kq)(l:gD w d b):
  Calls prog 103 #[.agg #[.slice a Kq.length cap],.agg #[.slice c f rc,.slice d b.length dc],.string name] w fun e w'=>Jq Kq b name w' e/\K_ w w':=
 (Et w a cap Kq c f rc d dc b name g h i j k l).mono fun _e _w' ⟨⟨m,o,n,p,q,r,s,t,_⟩,v⟩=>⟨⟨m,o,n,p,q,r,s,t⟩,v⟩
section
variable {P : Program} {w : Qy}
theorem jh{o:Oper}{a:Act}{K:Act->Qy->Prop}{Q:Exit->Act->Qy->Prop}(s x:Operand)(t:TypeId)
  (y:o.op= .call {callee:= .builtin .append,args:= #[s,x],argTypes:= #[t,t]})
  (base:Nat) (e:TypeId) (i:TypeInfo) (z:QA) (size k:Nat) (A:P.underlying t=some (.slice e)) (hi:P.info? e=some i) (E:i.zero=some z)
  (F:i.size=size) (G:i.bytes=k) (H:z.cells.size=size) (I:0<size)
  (v:QA) (n:Nat) (h:List QA) (B:a.eval s=v) (l:w.ownsRow base e size v n h)
  (J:Nat) (v2:QA) (m:Nat) (c:List QA) (C:a.eval x=v2) (d:w.ownsRow J e size v2 m c) (L:∀u∈c,u.oneCell'=true)
  (M:n+m<=maxLen) (N:(n+m)*k<=140737488355328) (O:base<=w.heap.size)
  (D:∀v' w',w'.ownsRow base e size v' (n+m) (h++c)->w.grownBy w' v.ownBlock->(∀g,v'.ownBlock=some g->v.ownBlock=some g\/w.heap.size<=g)->K (a.put o.dst v') w'):o.wp P a w K Q:=by
 by_cases j:m=0
 ·have b:∃p q,v2= .slice p 0 q:=by
   rcases d.2 with⟨b,_⟩|⟨g,r,R,b,_⟩
   ·exact⟨none,0,b⟩
   ·exact⟨some ⟨g,0,none⟩,r,by rw[b,j]⟩
  obtain⟨p,q,b⟩:=b;have S:c=[]:=Pk.1 (by rw[d.1,j,Nat.zero_mul]);refine Go.Lib.wp_append_run w s x t t y v _ B (by rw[C,b]) v w (oK base t o.type e i size A hi v n h l p q) (D v w ?_ ⟨rfl,rfl,rfl,OU _,fun _ _ _=>rfl⟩ (fun g e=>.inl e));rw[S,j];simpa using l
 ·rcases d.2 with⟨_,b⟩|⟨g,r,R,b,_⟩
  ·exact Qi b j
  ·refine wp_append_lies w s x t y base e i z size k A hi E F G H I v n h B l ⟨g,0,none⟩ m r c (by rw[C,b]) d.1 (fun T u U=>d.cells (g:=g) (by rw[b];rfl) T u U) L (by omega) M N O w.heap.size rfl (fun V a0 w' W X f q4=>D _ w' W X (fun Y Z=>?_));have e4:V=Y:=by injection Z
   subst e4;rcases f with f|f
   ·exact .inl f
   ·exact .inr (Pw f.symm)
theorem rJ{h:Array Oper}{rest:List Oper}{o:Oper}{a:Act}{Q:Exit->Act->Qy->Prop}(hgd:o.guard=none)(s x:Operand)(t:TypeId)
  (k:o.op= .call {callee:= .builtin .append,args:= #[s,x],argTypes:= #[t,t]})
  (base:Nat) (e:TypeId) (i:TypeInfo) (z:QA) (size d:Nat) (l:P.underlying t=some (.slice e)) (hi:P.info? e=some i) (p:i.zero=some z)
  (q:i.size=size) (r:i.bytes=d) (y:z.cells.size=size) (A:0<size)
  (v:QA) (n:Nat) (f:List QA) (B:a.eval s=v) (C:w.ownsRow base e size v n f)
  (j:Nat) (v2:QA) (m:Nat) (c:List QA) (D:a.eval x=v2) (E:w.ownsRow j e size v2 m c) (F:∀u∈c,u.oneCell'=true)
  (G:n+m<=maxLen) (H:(n+m)*d<=140737488355328) (I:base<=w.heap.size)
  (J:∀b w',w'.ownsRow base e size b (n+m) (f++c)->w.grownBy w' v.ownBlock->(∀g,b.ownBlock=some g->v.ownBlock=some g\/w.heap.size<=g)->wpList P h Q rest (a.put o.dst b) w'):wpList P h Q (o :: rest) a w:=
 wpList_plain hgd fun _ K=>jh s x t k base e i z size d l hi p q r y A v n f B C j v2 m c D E F G H I fun b w' L M N=>K _ _ (J b w' L M N)
end
