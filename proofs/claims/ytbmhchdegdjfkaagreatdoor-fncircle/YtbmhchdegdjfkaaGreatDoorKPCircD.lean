import Derived.Test.YtbmhchdegdjfkaaGreatDoorKVStuck
import Derived.Test.YtbmhchdegdjfkaaGreatDoorKXCircT
import Derived.Test.YtbmhchdegdjfkaaGreatDoorKCNeeds
import Derived.Deep.WholeRow
import Derived.LaidMore
import Derived.Test.YtbmhchdegdjfkaaGreatDoorCards
import Derived.Test.YtbmhchdegdjfkaaGreatDoorTie
import Derived.Lib.SmallJoins
set_option maxRecDepth 100000
set_option maxHeartbeats 25600000
namespace Go.Proofs.YtbmhchdegdjfkaaGreatDoor
open Go.RowKit Go.Proofs.Tryz
theorem dD{P:Program}{i:Func}{R:Ending->LP->Prop}{a:Act}{w:LP}{p q:Tmp}{c e:TypeId}{b f:Nat}(cs h:List LQ)(d d':TypeDesc)(k:i.results= #[.cell p c,.cell q e])
  (l:a.tmps.getD p undef= .pointer (some ⟨b,0,none⟩)) (m:w.rangeAt b 0 cs) (n:P.underlying c=some d) (r:d.isRow=true) (s:(P.info? c).map (·.size)=some cs.length)
  (t:a.tmps.getD q undef= .pointer (some ⟨f,0,none⟩)) (v:w.rangeAt f 0 h) (x:P.underlying e=some d') (y:d'.isRow=true) (A:(P.info? e).map (·.size)=some h.length)
  (B:a.defers=[]) (C:R (.returned (.tuple #[.agg cs.toArray,.agg h.toArray])) w):bodyPost P i R .ret a w:=by
 refine bodyPost_ret ?_ B C;have D:a.tmps[p]?.getD undef= .pointer (some ⟨b,0,none⟩):=by simpa using l
 have E:a.tmps[q]?.getD undef= .pointer (some ⟨f,0,none⟩):=by simpa using t
 simp only[results,k];simp[D,E,asAddr,run_loadVar_mid w b 0 c cs d m n r s,run_loadVar_mid w f 0 e h d' v x y A]
theorem AR{P:Program}{id:Nat}{d:Array Oper}{Q:Exit->Act->LP->Prop}{a:Act}{w:LP}(J:Act->Act->LP->Prop)(h:(Code.region id d true).wp P (fun x b u=>x= .normal/\J a b u) a w)(i:∀b u,J a b u->Q .normal b u):(Code.region id d true).wp P Q a w:=
 wp_mono h fun e b u c=>by
  obtain⟨rfl,c⟩:=c;exact i b u c
def JF(w:LP)(rb wb:Nat)(a:LM)(cap:Nat)(bs:List UInt8)(p:Nat)(na:LM)(nc:Nat)(L:List Qq)(x b:Act)(u:LP):Prop:=
 ∃(t0 t1 t2 t3 t4:LQ) (sb:Nat) (v1 v2:LQ) (p':Nat),b= (((((x.put (some 11) t0).put (some 12) t1).put (some 13) t2).put (some 14) t3).put (some 15) t4).put (some 5) (.pointer (some ⟨sb,0,none⟩))/\p<=p'/\p'<=p+20/\w.heap.size+2<=sb/\DS0 w u rb wb a cap bs p' na nc L/\SV L u sb v1 v2
def Fe(F t K M N B:Nat):Prop:=∀(w:LP) (rb:Nat) (a:LM) (cap:Nat) (bs:List UInt8) (p:Nat),Rd w rb a cap bs p->p<=B->bs.length<=2000->
 Calls prog F #[.pointer (some ⟨rb,0,none⟩)] w fun e w'=>Cg K M N w w' rb a cap bs p t e
theorem Eo :Fe 54 2000 0 20 60 500000:=by
 intro w q G H I e9 hR hp a5;obtain⟨W0,a7⟩:=aj ((w.alloc (.cells #[.slice none 0 0] 25)).alloc (.cells #[.slice none 0 0,.slice none 0 0] 29));have k0:K_ w W0:=by rw[a7];exact (ag _ _).alloc _
 have f0:W0.heap.size=w.heap.size+2:=by rw[a7];simp
 have c7:Hid (aC W0 w.heap.size 25 1/\NoS W0 w.heap.size):=by
  rw[a7];have kk:K_ (w.alloc (.cells #[.slice none 0 0] 25)) ((w.alloc (.cells #[.slice none 0 0] 25)).alloc (.cells #[.slice none 0 0,.slice none 0 0] 29)):=ag _ _;exact⟨(aC.made w _ _).kept kk,(uu w _ _ (fun h6 hv j5 m=>by simp at hv;rw[hv] at m;cases m)).block (kk.block _ (by simp))⟩
 have c8:Hid (SZ W0 (w.heap.size+1)):=by
  have j:=SZ.made (w.alloc (.cells #[.slice none 0 0] 25));simp only[KR] at j;rw[a7];exact j
 have f1:=Kz (hR.kept k0);have⟨h7,a8⟩:=aH hR k0;have j6:=hR.row.lt;have f2:=Kz f0;clear hR k0 f0;go_enter func54,ntmps54
 go_upto_region 1 with fail
 rw[<-a7];clear a7;go_wp2_with fail
 refine (EX (Kz Al) (Kz Fz) _ q G H I e9 f1.o (by omega) a5).mono ?_;rintro m w1 ⟨h6,L,p1,rfl,j7,j8,hL,c1,hG,f3,V,_⟩;obtain⟨f,h,rfl,_,_⟩:=hG.slice;obtain⟨W1,c2⟩:=aj (w1.alloc (.cells #[.slice f L.length h] 25));obtain⟨S,d0⟩:=aj w1.heap.size;have d1:Hid (DS0 w W1 q S G H I p1 f h L):=by
  have k1:K_ w1 W1:=by rw[c2];exact ag _ _
  have z0:=f2.o;have zk:=V.size;have b1:=V.block w.heap.size c7.o.1.lt (by omega);have b2:=V.block (w.heap.size+1) c8.o.1.lt (by omega);refine⟨f3.kept k1,⟨e9,h7.o⟩,Xk.eP ⟨V.os.trans a8.o.os,V.tape.trans a8.o.tape,V.output.trans a8.o.output,JS a8.o.size V.size,fun J hi ho=>(V.block J (JQ hi a8.o.size) ho).trans (a8.o.block J hi)⟩ k1,(c7.o.1.block b1).kept k1,(c7.o.2.block b1).block (k1.block _ (by omega)),(c8.o.1.block b2).kept k1,(c8.o.2.block b2).block (k1.block _ (by omega)), ?_, ?_,by omega,hG.kept k1⟩
  ·rw[c2,d0];exact aC.made w1 _ _
  ·rw[c2,d0];exact Xz w1 _ _ 0 _ rfl
 have f4:=Kz c1;have c3:=Kz (rX (by omega) c1);have f5:=Kz (CF (by omega) c1);have d4:Hid (∀d∈L,d.name.size<=300):=fun d hd=>(c1 d hd).name
 go_upto_region 2 with fail
 rw[<-c2,<-d0];clear c2 d0 c1 hG f3 V c7 c8 f2 f1;refine AR (JF w q S G H I p1 f h L) ?_ ?_
 ·refine Qx.region (by kernel_rfl) (fun u=>u.cell? ⟨S,0,none⟩=some (.slice f L.length h)) 6 (d1.o.kept (aL _)).wc (fun e=>?_);have a:=Kz (d1.o.kept (aL W1));generalize W:W1.drew=r at e a⊢;clear W d1;refine af 0 e ?_;refine af 1 e ?_;refine af 2 e ?_;refine dx 3 5 (fun K b=>?_) (fun K b=>?_)
  ·rw[Lt (by rfl)];go_simp
   go_at_call 94
   refine (rE r q G H I p1 f h L a.o.rd (by omega) a5 a.o.nd (by omega) d4.o).mono ?_;rintro m w2 ⟨X,Y,Z,M,rfl,_,f6,a9,a2,b0,b3,N,t⟩;have a:=Kz (a.o.drawn N t);have HT:=Kz a2.strs;clear N t a2;dsimp only;refine ae b (fun _=>a.o.wc) ?_;clear b K e;have e:=a.o.wc;refine dx 4 5 (fun K b=>?_) (fun K b=>?_)
   ·rw[Lt (by rfl)];go_simp
    go_at_call 48
    refine (lZ w2 f h L X 0 Y Z (by omega) c3.o (by omega) a9 a.o.nd.nodes HT.o).mono ?_;rintro m O ⟨E,F,rfl,v,T⟩;have a:=Kz (a.o.kept T);have p:=Kz v;clear v;dsimp only;refine ae b (fun _=>a.o.wc) ?_;clear b K e;have e:=a.o.wc;refine ak 5 (fun K b=>?_);go_simp
    have i:=Kz (SZ.made O);have a3:w.heap.size+2<=O.heap.size:=JS (Nat.le_of_lt (Nat.lt_of_le_of_lt a.o.wl a.o.eT.lt)) (JP _);have a:=Kz (a.o.kept ((K_.refl O).alloc (.cells #[.slice none 0 0,.slice none 0 0] 29)));have p:=Kz (p.o.kept ((K_.refl O).alloc (.cells #[.slice none 0 0,.slice none 0 0] 29)));refine ae b (fun _=>a.o.wc) ?_;clear b K e;have e:=a.o.wc;obtain⟨x,y,A,B,C,D,rfl,rfl⟩:=p.o.slices;refine ak 6 (fun K b=>?_);refine wp_store_mid 29 _ _ rfl O.heap.size 0 #[.slice x y A,.slice B C D] (by rfl) (by rfl) (cK i.o.1) (by kernel_rfl) (jT ..) ?_;refine ae b (fun j=>Lv rfl j) ?_;clear b K;refine aB ⟨rfl, ?_⟩;refine⟨.agg #[.slice f L.length h],.pointer (some ⟨q,0,none⟩),.agg #[.slice f L.length h],.slice (some ⟨X,0,none⟩) Z.length Y,.agg #[.slice x y A,.slice B C D],O.heap.size,_,_,M, ?_,b0,b3,a3,a.o.put i.o a3,i.o.put p.o⟩;simp only[Act.put,List.setIfInBounds_toArray,List.set_cons_zero,Lg]
   ·rw[Lt (by rfl)];go_simp
    have i:=Kz (SZ.made w2);have a3:w.heap.size+2<=w2.heap.size:=JS (Nat.le_of_lt (Nat.lt_of_le_of_lt a.o.wl a.o.eT.lt)) (JP _);have a:=Kz (a.o.kept ((K_.refl w2).alloc (.cells #[.slice none 0 0,.slice none 0 0] 29)));have HT:=Kz (HT.o.kept ((K_.refl w2).alloc (.cells #[.slice none 0 0,.slice none 0 0] 29)));refine ae b (fun _=>a.o.wc) ?_;clear b K e;have e:=a.o.wc;refine ak 4 (fun K b=>?_);go_simp
    go_at_call 48
    refine (lZ (w2.alloc (.cells #[.slice none 0 0,.slice none 0 0] 29)) f h L X 0 Y Z (by omega) c3.o (by omega) a9 a.o.nd.nodes HT.o).mono ?_;rintro m O ⟨E,F,rfl,v,T⟩;have i:=Kz (i.o.kept T);have a:=Kz (a.o.kept T);have p:=Kz v;clear v;dsimp only;refine ae b (fun _=>a.o.wc) ?_;clear b K e;have e:=a.o.wc;obtain⟨x,y,A,B,C,D,rfl,rfl⟩:=p.o.slices;refine ak 6 (fun K b=>?_);refine wp_store_mid 29 _ _ rfl w2.heap.size 0 #[.slice x y A,.slice B C D] (by rfl) (by rfl) (cK i.o.1) (by kernel_rfl) (jT ..) ?_;refine ae b (fun j=>absurd rfl j) ?_;clear b K;refine aB ⟨rfl, ?_⟩;refine⟨.agg #[.slice f L.length h],.pointer (some ⟨q,0,none⟩),.agg #[.slice f L.length h],.slice (some ⟨X,0,none⟩) Z.length Y,.agg #[.slice x y A,.slice B C D],w2.heap.size,_,_,M, ?_,b0,b3,a3,a.o.put i.o a3,i.o.put p.o⟩;simp only[Act.put,List.setIfInBounds_toArray,List.set_cons_zero,List.set_cons_succ]
  ·rw[Lt (by rfl)];go_simp
   have i:=Kz (SZ.made r);have a3:w.heap.size+2<=r.heap.size:=JS (Nat.le_of_lt (Nat.lt_of_le_of_lt a.o.wl a.o.eT.lt)) (JP _);have a:=Kz (a.o.kept ((K_.refl r).alloc (.cells #[.slice none 0 0,.slice none 0 0] 29)));refine ae b (fun _=>a.o.wc) ?_;clear b K e;have e:=a.o.wc;refine ak 3 (fun K b=>?_);go_simp
   go_at_call 94
   refine (rE (r.alloc (.cells #[.slice none 0 0,.slice none 0 0] 29)) q G H I p1 f h L a.o.rd (by omega) a5 a.o.nd (by omega) d4.o).mono ?_;rintro m w2 ⟨X,Y,Z,M,rfl,_,f6,a9,a2,b0,b3,N,t⟩;have i:=Kz (i.o.drawn a.o.rd t);have a:=Kz (a.o.drawn N t);have HT:=Kz a2.strs;clear N t a2;dsimp only;refine ae b (fun _=>a.o.wc) ?_;clear b K e;have e:=a.o.wc;refine ak 4 (fun K b=>?_);go_simp
   go_at_call 48
   refine (lZ w2 f h L X 0 Y Z (by omega) c3.o (by omega) a9 a.o.nd.nodes HT.o).mono ?_;rintro m O ⟨E,F,rfl,v,T⟩;have i:=Kz (i.o.kept T);have a:=Kz (a.o.kept T);have p:=Kz v;clear v;dsimp only;refine ae b (fun _=>a.o.wc) ?_;clear b K e;have e:=a.o.wc;obtain⟨x,y,A,B,C,D,rfl,rfl⟩:=p.o.slices;refine ak 6 (fun K b=>?_);refine wp_store_mid 29 _ _ rfl r.heap.size 0 #[.slice x y A,.slice B C D] (by rfl) (by rfl) (cK i.o.1) (by kernel_rfl) (jT ..) ?_;refine ae b (fun j=>absurd rfl j) ?_;clear b K;refine aB ⟨rfl, ?_⟩;refine⟨.agg #[.slice f L.length h],.pointer (some ⟨q,0,none⟩),.agg #[.slice f L.length h],.slice (some ⟨X,0,none⟩) Z.length Y,.agg #[.slice x y A,.slice B C D],r.heap.size,_,_,M, ?_,b0,b3,a3,a.o.put i.o a3,i.o.put p.o⟩;simp only[Act.put,List.setIfInBounds_toArray,List.set_cons_zero,List.set_cons_succ]
 rintro _ w5 ⟨t0,t1,t2,t3,t4,P,E,F,M,rfl,b0,b3,b4,Q,n⟩;try simp only[upP]
 have⟨f7,f8⟩:=aH Q n;clear Q n d1;go_wp2
 go_loopg [6] 3 (fun g x6 wr=>∃(J p':Nat) (E F:LQ),x6= .int .i64 (J:Int)/\J+g=3/\M<=p'/\p'<=M+20*J/\DS0 w wr q S G H I p' f h L/\SV L wr P E F)
 case atStart=>exact⟨0,M,E,F,rfl,rfl,JP _,JP _,f7.o,f8.o⟩
 case round=>
  clear f7 f8 E F;obtain⟨J,p3,E,F,rfl,hi,j9,h8,Q,n⟩:=hrel;obtain⟨s1,s2,s3,s4,s5,s6,rfl,rfl⟩:=n.st.slices;have⟨a,c⟩:=aH Q n;have c0:=n.c0;have cz:=n.row.lt;clear Q n;go_upto_region 4 with fail
  go_cut [23] from 16 to 23 (fun h9 R=>∃a0:Bool,h9= .bool a0/\R=wr/\(a0=true->J<3))
  case first=>
   by_cases h3:(J:Int)<3
   ·go_wp2
    go_meet
    exact⟨_,rfl,rfl,fun _=>by omega⟩
   ·go_wp2
    go_meet
    exact⟨false,rfl,rfl,fun j=>by cases j⟩
  case rest=>
   obtain⟨a0,rfl,rfl,hb⟩:=hcut;have HB:=Kz hb;clear hb c0;cases a0
   ·have k2:p3<=M+60:=by omega
    clear h8 hi HB;go_wp2_with fail
    refine (aK _ q G H I p3 _ 40 rfl a.o.rd (by omega) (by omega) a5).mono ?_;rintro m w2 ⟨q2,rfl,i0,N,t⟩;have f9:=Kz (c.o.drawn a.o.rd t);have d2:=Kz (a.o.drawn N t);clear N t a c cz;go_wp2_with fail
    refine (aK _ q G H I (p3+1) _ 3 rfl d2.o.rd (by omega) (by omega) a5).mono ?_;rintro m O ⟨q3,rfl,i1,g0,d5⟩;have g1:=Kz (f9.o.drawn d2.o.rd d5);have g2:=Kz (d2.o.drawn g0 d5);clear g0 d5 d2 f9;go_upto_if 35 with fail
    go_cut [7] from 35 to 36 (fun s7 R=>∃b5:Nat,s7= .int .i64 (b5:Int)/\b5<=600/\R=O)
    case first=>
     by_cases h5:q3=0
     ·have i2:((q3:Int) == 0)=true:=by simp[h5]
      clear h5;go_wp2
      go_meet
      exact⟨600,rfl,JP _,rfl⟩
     ·have i2:((q3:Int) == 0)=false:=by simpa using h5
      clear h5;go_wp2
      go_meet
      exact⟨q2,rfl,by omega,rfl⟩
    case rest=>
     obtain⟨b5,rfl,hn,rfl⟩:=hcut;go_wp2
     go_loopg [7] b5 (fun g x7 wr=>∃(p':Nat) (E F:LQ),x7= .int .i64 (g:Int)/\g<=b5/\p3<=p'/\p'+g<=p3+2+b5/\DS0 w wr q S G H I p' f h L/\SV L wr P E F)
     case atStart=>exact⟨p3+2,_,_,rfl,JP _,by omega,by omega,g2.o,g1.o⟩
     case round=>
      clear g2 g1 s1 s2 s3 s4 s5 s6 i0 i1;obtain⟨p7,E,F,rfl,k3,k4,k5,Q,n⟩:=hrel;have⟨a,c⟩:=aH Q n;obtain⟨s1,s2,s3,s4,s5,s6,rfl,rfl⟩:=n.st.slices;clear Q n;by_cases k6:(0:Int)<(gk:Int)
      ·have c0:=c.o.c0;have d6:=c.o.c1;have cz:=c.o.row.lt;have cw:=a.o.wc;have zw:=a.o.eT.lt;go_upto_region 12 with fail
       go_cut [8] from 37 to 43 (fun s8 R=>∃(la:LM) (l:List LK) (lc:Nat),s8= .slice la l.length lc/\DS0 w R q S G H I p7 f h L/\SV L R P (.slice s1 s2 s3) (.slice s4 s5 s6)/\Hid (0<l.length->Strs R la l/\∃Kk k qb qo,s1=some ⟨qb,qo,none⟩/\s2=Kk.length/\s5=k.length/\bn L 0/\eO Kk/\dB L k/\Strs R s1 Kk/\bD R s4 k/\eB (Q_ L) (Qj k) k l))
       case first=>
        rcases c.o.st with⟨c4,c5⟩|⟨Kk,k,qb,qo,rc,d,dc,c4,c5,hW,hY,a6,hS,hX⟩
        ·simp only[KX] at c4 c5;obtain⟨rfl,rfl,rfl⟩:=c4;obtain⟨rfl,rfl,rfl⟩:=c5;go_wp2_with fail
         refine (oM wr f h L none 0 0 none 0 [] (by omega) (by simp) f5.o (fun U hr=>by cases hr) a.o.nd.nodes (fun J hi=>by simp at hi)).mono ?_;rintro m w8 ⟨⟨la,lc,l,rfl,a1,_⟩,s⟩;obtain rfl:l=[]:=LB (by have:=a1.len;simpa using this);have d7:=Kz (a.o.kept s);have d8:=Kz (c.o.kept s);clear c0 d6 cz cw zw s a1;go_wp2
         go_meet
         exact⟨_,[],_,rfl,d7.o,d8.o,Kz (fun j=>by cases j)⟩
        ·simp only[KX] at c4 c5;obtain⟨rfl,rfl,rfl⟩:=c4;obtain⟨rfl,rfl,rfl⟩:=c5;have⟨HW,HY,b6,HS,HX⟩:=jb hW hY a6 hS hX;have i3:=a6.len;have k7:=hY.1;clear hW hY a6 hS hX;go_wp2_with fail
         refine (oM wr f h L (some ⟨qb,qo,none⟩) Kk.length s3 s4 s6 k (by omega) (by omega) f5.o (fun U hr _ _=>(b6.o.good U hr).act) a.o.nd.nodes HX.o).mono ?_;rintro m w8 ⟨⟨la,lc,l,rfl,a1,g3⟩,s⟩;have d9:=Kz a1;have a4:Hid (Strs w8 la l):=by
          obtain⟨k8,c9,g4,i4⟩:=aX g3;simp only[KX,true_and] at g4;obtain⟨rfl,rfl⟩:=g4;exact i4
         have d7:=Kz (a.o.kept s);have d8:=Kz (c.o.kept s);have i5:=Kz (HS.o.kept s);have i6:=Kz (HX.o.kept s);clear c0 d6 cz cw zw s a1 g3;go_wp2
         go_meet
         exact⟨_,l,_,rfl,d7.o,d8.o,Kz (fun _=>⟨a4.o,Kk,k,qb,qo,rfl,rfl,rfl,HW.o,HY.o,b6.o,i5.o,i6.o,d9.o⟩)⟩
       case rest=>
        clear a c c0 d6 cz cw zw;obtain⟨la,l,lc,rfl,Q,n,e0⟩:=hcut;have⟨a,c⟩:=aH Q n;have c0:=n.c0;have cz:=n.row.lt;clear Q n;obtain⟨wy,rfl⟩:=aj wc;go_upto_region 13 with fail
        go_cut [51] from 43 to 51 (fun i7 R=>∃a0:Bool,i7= .bool a0/\R=wy/\(a0=false->0<l.length))
        case first=>
         by_cases c6:l.length=0
         ·have i8:((l.length:Int) == 0)=true:=by simp[c6]
          clear c6;go_wp2
          go_meet
          exact⟨true,rfl,rfl,fun j=>by cases j⟩
         ·have i8:((l.length:Int) == 0)=false:=by simpa using c6
          have i9:=Kz c6;clear c6;go_wp2
          go_meet
          exact⟨_,rfl,rfl,fun _=>Nat.pos_of_ne_zero i9.o⟩
        case rest=>
         obtain⟨a0,rfl,rfl,hb⟩:=hcut;have e1:=Kz hb;clear hb c0 cz;cases a0
         ·have e2:=e1.o rfl;obtain⟨g5,Kk,k,qb,qo,rfl,rfl,rfl,hW,hY,a6,hS,hX,a1⟩:=e0.o e2;obtain⟨rc,rfl⟩:=aj s3;obtain⟨d,rfl⟩:=aj s4;obtain⟨dc,rfl⟩:=aj s6;have⟨HW,HY,b6,d9,a4⟩:=jb hW hY a6 a1 g5;have⟨b7,b8,j0⟩:=dK hS hX e2;have i3:=a6.len;have l0:=a1.len;have l1:=hY.2.1;clear hW hY a6 hS hX a1 g5 e2 e0 e1;go_wp2
          refine Qx.region (by kernel_rfl) (fun u=>u.cell? ⟨S,0,none⟩=some (.slice f L.length h)/\u.cell? ⟨P,0,none⟩=some (.slice (some ⟨qb,qo,none⟩) Kk.length rc)/\u.cell? ⟨P,1,none⟩=some (.slice d k.length dc)) 10 ⟨(a.o.kept (aL _)).wc,(c.o.kept (aL _)).c0,(c.o.kept (aL _)).c1⟩ (fun e=>?_);have c:=Kz (c.o.kept (aL wc));have a:=Kz (a.o.kept (aL wc));have a4:=Kz (a4.o.kept (aL wc));have b7:=Kz (b7.o.kept (aL wc));have b8:=Kz (b8.o.kept (aL wc));generalize W:wc.drew=r at e a c a4 b7 b8⊢;clear W;refine au 0 e ?_;refine af 4 e ?_;refine af 5 e ?_;refine ak 6 (fun K b=>?_);go_simp
          go_at_call 21
          refine (jO r q G H I p7 l.length a.o.rd (by omega) (by omega) a5).mono ?_;rintro m w8 ⟨kk,rfl,l2,g6,b9⟩;have a4:=Kz (a4.o.noS a.o.rd.noS b9);have b7:=Kz (b7.o.noS a.o.rd.noS b9);have b8:=Kz (b8.o.noS a.o.rd.noS b9);have c:=Kz (c.o.drawn a.o.rd b9);have a:=Kz (a.o.drawn g6 b9);have e3:kk<l.length:=by have:=j0.o;omega
          obtain⟨d3,e4⟩:=aj (l.getD kk ByteArray.empty);obtain⟨lb,lo,rfl,l3,j1⟩:=a4.o kk e3;rw[<-e4] at j1;have j2:Hid (∃U,U∈k/\Qj k d3=some U/\bZ (Q_ L) (Qj k) U):=by
           have hm:d3∈l:=by rw[e4];simp only[List.getD,JV e3,Lx];exact J_ e3
           obtain⟨U,h1,h2,h3⟩:=(d9.o.mem d3).1 hm;exact⟨U,h1,by rw[<-h2];exact bI b6.o.asc h1,h3⟩
          obtain⟨U,g7,g8,g9⟩:=j2.o;have⟨j3,h0,j4⟩:=dK g8 g9 g7;have l4:(kk:Int)<(l.length:Int):=by omega
          clear g6 b9 e4 g8 g9 g7;dsimp only;refine ae b (fun _=>⟨a.o.wc,c.o.c0,c.o.c1⟩) ?_;clear b K e;refine ak 7 (fun K b=>?_);go_simp
          refine ae b (fun _=>⟨a.o.wc,c.o.c0,c.o.c1⟩) ?_;clear b K;refine ak 8 (fun K b=>?_);go_simp
          refine ae b (fun _=>⟨a.o.wc,c.o.c0,c.o.c1⟩) ?_;clear b K;refine ak 9 (fun K b=>?_);go_simp
          go_at_call 50
          refine (oJ w8 f h L qb qo rc Kk d dc k d3 U (by omega) (by omega) (gV HW.o) (aZ HW.o) c3.o (by omega) b6.o j3.o h0.o a.o.nd.nodes b8.o b7.o).mono ?_;rintro m w9 h4;obtain⟨E,F,rfl,v,k9⟩:=h4.z HW.o HY.o (qI (aZ HW.o) b6.o j4.o h0.o);have i:=Kz (c.o.z.kept k9);have c:=Kz (c.o.kept k9);have a:=Kz (a.o.kept k9);have p:=Kz v;clear v h4;dsimp only;refine ae b (fun _=>⟨a.o.wc,c.o.c0,c.o.c1⟩) ?_;clear b K;obtain⟨x,y,A,B,C,D,rfl,rfl⟩:=p.o.slices;refine ak 10 (fun K b=>?_);refine wp_store_mid 29 _ _ rfl P 0 #[.slice x y A,.slice B C D] (by rfl) (by rfl) (cK i.o.1) (by kernel_rfl) (jT ..) ?_;refine ae b (fun j=>absurd rfl j) ?_;clear b K;refine aB ?_;go_wp2_with fail
          have e5:=Kz (a.o.put (v1:= .slice x y A) (v2:= .slice B C D) i.o b4);have e6:=Kz (i.o.put p.o);go_roundg (gk-1)
          case measure=>omega
          case rel=>exact⟨p7+1,_,_,by go_num,by omega,by omega,by omega,e5.o,e6.o⟩
         ·clear e0 e1;go_wp2
          refine Qx.region (by kernel_rfl) (fun u=>u.cell? ⟨S,0,none⟩=some (.slice f L.length h)/\u.cell? ⟨P,0,none⟩=some (.slice s1 s2 s3)/\u.cell? ⟨P,1,none⟩=some (.slice s4 s5 s6)) 4 ⟨(a.o.kept (aL _)).wc,(c.o.kept (aL _)).c0,(c.o.kept (aL _)).c1⟩ (fun e=>?_);have c:=Kz (c.o.kept (aL wc));have a:=Kz (a.o.kept (aL wc));generalize W:wc.drew=r at e a c⊢;clear W;refine af 0 e ?_;refine af 1 e ?_;refine ak 2 (fun K b=>?_);go_simp
          go_at_call 53
          refine (xM r L _ _ c.o.st).mono ?_;rintro m w8 ⟨ra,rc,d,dc,Kk,k,rfl,hU,s⟩;have a:=Kz (a.o.kept s);have c:=Kz (c.o.kept s);have HU:=Kz hU;clear hU;dsimp only;refine ae b (fun _=>⟨a.o.wc,c.o.c0,c.o.c1⟩) ?_;clear b K e;obtain⟨_,e7,e8⟩:=a.o.range (.slice f L.length h) (.slice ra Kk.length rc) (.slice d k.length dc);refine ak 3 (fun K b=>?_);refine a.o.w1 rfl rfl rfl ?_;refine ae b (fun _=>⟨a.o.st1 a.o.eT a.o.wl a.o.wc,a.o.st1 c.o.row b4 c.o.c0,a.o.st1 c.o.row b4 c.o.c1⟩) ?_;clear b K;refine ak 4 (fun K b=>?_);refine a.o.w2 rfl rfl rfl ?_;refine ae b (fun j=>absurd rfl j) ?_;clear b K;refine aB ?_;go_wp2_with fail
          exact dD [.slice f L.length h] [.slice ra Kk.length rc,.slice d k.length dc] _ _ results54 rfl e7 underlying25 rfl Tryz.fC rfl e8 underlying29 rfl Tryz.bH rfl (a.o.ends a.o.nd HU.o (by omega) (by omega) hL f4.o)
      ·go_wp2
       refine Qx.region (by kernel_rfl) (fun u=>u.cell? ⟨S,0,none⟩=some (.slice f L.length h)/\u.cell? ⟨P,0,none⟩=some (.slice s1 s2 s3)/\u.cell? ⟨P,1,none⟩=some (.slice s4 s5 s6)) 4 ⟨(a.o.kept (aL _)).wc,(c.o.kept (aL _)).c0,(c.o.kept (aL _)).c1⟩ (fun e=>?_);have c:=Kz (c.o.kept (aL wr));have a:=Kz (a.o.kept (aL wr));generalize W:wr.drew=r at e a c⊢;clear W;refine af 0 e ?_;refine af 1 e ?_;refine ak 2 (fun K b=>?_);go_simp
       go_at_call 53
       refine (xM r L _ _ c.o.st).mono ?_;rintro m w8 ⟨ra,rc,d,dc,Kk,k,rfl,hU,s⟩;have a:=Kz (a.o.kept s);have c:=Kz (c.o.kept s);have HU:=Kz hU;clear hU;dsimp only;refine ae b (fun _=>⟨a.o.wc,c.o.c0,c.o.c1⟩) ?_;clear b K e;obtain⟨_,e7,e8⟩:=a.o.range (.slice f L.length h) (.slice ra Kk.length rc) (.slice d k.length dc);refine ak 3 (fun K b=>?_);refine a.o.w1 rfl rfl rfl ?_;refine ae b (fun _=>⟨a.o.st1 a.o.eT a.o.wl a.o.wc,a.o.st1 c.o.row b4 c.o.c0,a.o.st1 c.o.row b4 c.o.c1⟩) ?_;clear b K;refine ak 4 (fun K b=>?_);refine a.o.w2 rfl rfl rfl ?_;refine ae b (fun j=>absurd rfl j) ?_;clear b K;refine aB ?_;go_wp2_with fail
       exact dD [.slice f L.length h] [.slice ra Kk.length rc,.slice d k.length dc] _ _ results54 rfl e7 underlying25 rfl Tryz.fC rfl e8 underlying29 rfl Tryz.bH rfl (a.o.ends a.o.nd HU.o (by omega) (by omega) hL f4.o)
   ·have l5:=HB.o rfl;clear HB;go_wp2
    refine Qx.region (by kernel_rfl) (fun u=>u.cell? ⟨S,0,none⟩=some (.slice f L.length h)) 5 (a.o.kept (aL _)).wc (fun e=>?_);have i:=Kz (c.o.z.kept (aL wc));have a:=Kz (a.o.kept (aL wc));generalize W:wc.drew=r at e a i⊢;clear W c;refine af 0 e ?_;refine af 1 e ?_;refine af 2 e ?_;refine ak 3 (fun K b=>?_);go_simp
    go_at_call 94
    refine (rE r q G H I p3 f h L a.o.rd (by omega) a5 a.o.nd (by omega) d4.o).mono ?_;rintro m w2 ⟨X,Y,Z,M,rfl,_,f6,a9,a2,b0,b3,N,t⟩;have i:=Kz (i.o.drawn a.o.rd t);have a:=Kz (a.o.drawn N t);have HT:=Kz a2.strs;clear N t a2;dsimp only;refine ae b (fun _=>a.o.wc) ?_;clear b K e;have e:=a.o.wc;refine ak 4 (fun K b=>?_);go_simp
    go_at_call 48
    refine (lZ w2 f h L X 0 Y Z (by omega) c3.o (by omega) a9 a.o.nd.nodes HT.o).mono ?_;rintro m O ⟨E,F,rfl,v,T⟩;have i:=Kz (i.o.kept T);have a:=Kz (a.o.kept T);have p:=Kz v;clear v;dsimp only;refine ae b (fun _=>a.o.wc) ?_;clear b K e;have e:=a.o.wc;obtain⟨x,y,A,B,C,D,rfl,rfl⟩:=p.o.slices;refine ak 5 (fun K b=>?_);refine wp_store_mid 29 _ _ rfl P 0 #[.slice x y A,.slice B C D] (by rfl) (by rfl) (cK i.o.1) (by kernel_rfl) (jT ..) ?_;refine ae b (fun j=>absurd rfl j) ?_;clear b K;refine aB ?_;go_wp2_with fail
    have e5:=Kz (a.o.put (v1:= .slice x y A) (v2:= .slice B C D) i.o b4);have e6:=Kz (i.o.put p.o);go_roundg (gk-1)
    case measure=>omega
    case rel=>exact⟨J+1,M,_,_,by go_num,by omega,by omega,by omega,e5.o,e6.o⟩
structure SU (N:Nat) (w wr:LP) (sb:Nat) (ra:LM) (rc:Nat) (d:LM) (dc:Nat) (Kk:List LK) (sl:List Qz):Prop where
 row:aC wr sb 29 2
 c0:wr.cell? ⟨sb,0,none⟩=some (.slice ra Kk.length rc)
 c1:wr.cell? ⟨sb,1,none⟩=some (.slice d sl.length dc)
 st:StU N wr ra rc d Kk sl
 sl:w.heap.size+2<=sb
section
variable {N : Nat} {w wr w' : LP} {rb sb : Nat} {a : LM} {cap : Nat} {bs : List UInt8} {p : Nat} {ra : LM} {rc : Nat} {d : LM} {dc : Nat} {Kk : List LK} {sl : List Qz}
theorem SU.drawn(h:SU N w wr sb ra rc d dc Kk sl)(e:Rd wr rb a cap bs p)(k:Xk rb (rb+1) wr w'):SU N w w' sb ra rc d dc Kk sl:=by
 have c:=k.block _ h.row.lt (by have:=uQ h.row e.row (by decide);omega);exact⟨h.row.block c,(Ke (w:=wr) c).trans h.c0,(Ke (w:=wr) c).trans h.c1,h.st.noS e.noS k,h.sl⟩
theorem SU.kept(h:SU N w wr sb ra rc d dc Kk sl)(k:K_ wr w'):SU N w w' sb ra rc d dc Kk sl:=⟨h.row.kept k,(k.cell h.row.lt).trans h.c0,(k.cell h.row.lt).trans h.c1,h.st.kept k,h.sl⟩
end
theorem Gg{M N K t:Nat}{w m w1:LP}{r:Nat}{a:LM}{v:Nat}{x:List UInt8}{p:Nat}{e:Ending}(C:∃p0,Rd w r a v x p0)(n:K_ w m)(V:m.heap.size=w.heap.size+2)(y:aC m w.heap.size 25 1/\NoS m w.heap.size)(h2:SZ m (w.heap.size+1))(s:Cg K M N m w1 r a v x p t e):
  ∃b c L f h d i Kk j q,e= .returned (.tuple #[.agg #[.slice b (List.length L) c],.agg #[.slice f (List.length Kk) h,.slice d (List.length j) i]])/\p<=q/\q<=p+t/\L.length<=N/\(∀d∈L,d.TinyN M)/\DS0 w ((w1.alloc (.cells #[.slice b L.length c] 25)).alloc (.cells #[.slice f Kk.length h,.slice d j.length i] 29)) r w1.heap.size a v x q b c L/\SU K w ((w1.alloc (.cells #[.slice b L.length c] 25)).alloc (.cells #[.slice f Kk.length h,.slice d j.length i] 29)) (w1.heap.size+1) f h d i Kk j:=by
 obtain⟨b,c,L,f,h,d,i,Kk,j,q,rfl,H,I,J,O,P,Q,R,k⟩:=s;have W:r<w.heap.size:=let ⟨_,h0⟩:=C;h0.row.lt
 have S:K_ w1 (w1.alloc (.cells #[.slice b L.length c] 25)):=ag _ _;have A:K_ (w1.alloc (.cells #[.slice b L.length c] 25)) ((w1.alloc (.cells #[.slice b L.length c] 25)).alloc (.cells #[.slice f Kk.length h,.slice d j.length i] 29)):=ag _ _;have l:=S.trans A;have D:=k.block w.heap.size y.1.lt (by omega);have E:=k.block (w.heap.size+1) h2.1.lt (by omega);have X:=k.size;have T:aC ((w1.alloc (.cells #[.slice b L.length c] 25)).alloc (.cells #[.slice f Kk.length h,.slice d j.length i] 29)) (w1.heap.size+1) 29 2:=by
  have s:=aC.made (w1.alloc (.cells #[.slice b L.length c] 25)) #[.slice f Kk.length h,.slice d j.length i] 29;simp only[KR] at s;exact s
 have B:=Xz (w1.alloc (.cells #[.slice b L.length c] 25)) #[.slice f Kk.length h,.slice d j.length i] 29;simp only[KR] at B;refine⟨b,c,L,f,h,d,i,Kk,j,q,rfl,H,I,J,O,⟨R.kept l,C,Xk.eP ⟨k.os.trans n.os,k.tape.trans n.tape,k.output.trans n.output,JS n.size k.size,fun F G U=>(k.block F (JQ G n.size) U).trans (n.block F G)⟩ l,(y.1.block D).kept l,(y.2.block D).block (l.block _ (by omega)),(h2.1.block E).kept l,(h2.2.block E).block (l.block _ (by omega)),(aC.made w1 _ _).kept A,(A.cell (by simp)).trans (Xz w1 _ _ 0 _ rfl),by omega,P.kept l⟩,⟨T,B 0 _ rfl,B 1 _ rfl,Q.kept l,by omega⟩⟩
theorem qx(w:LP):(aC ((w.alloc (.cells #[.slice none 0 0] 25)).alloc (.cells #[.slice none 0 0,.slice none 0 0] 29)) w.heap.size 25 1/\NoS ((w.alloc (.cells #[.slice none 0 0] 25)).alloc (.cells #[.slice none 0 0,.slice none 0 0] 29)) w.heap.size)/\SZ ((w.alloc (.cells #[.slice none 0 0] 25)).alloc (.cells #[.slice none 0 0,.slice none 0 0] 29)) (w.heap.size+1):=by
 have a:K_ (w.alloc (.cells #[.slice none 0 0] 25)) ((w.alloc (.cells #[.slice none 0 0] 25)).alloc (.cells #[.slice none 0 0,.slice none 0 0] 29)):=ag _ _;have h:=SZ.made (w.alloc (.cells #[.slice none 0 0] 25));simp only[KR] at h;exact⟨⟨(aC.made w _ _).kept a,(uu w _ _ (fun v c s e=>by simp at c;rw[c] at e;cases e)).block (a.block _ (by simp))⟩,h⟩
theorem Gx :Fe 25 2100 1 30 200 400000:=by
 intro B C D E F a2 O hp G;obtain⟨W0,r⟩:=aj ((B.alloc (.cells #[.slice none 0 0] 25)).alloc (.cells #[.slice none 0 0,.slice none 0 0] 29));have P:K_ B W0:=by rw[r];exact (ag _ _).alloc _
 have a3:W0.heap.size=B.heap.size+2:=by rw[r];simp
 have Q:=qx B;rw[<-r] at Q;have R:=Kz Q;have a4:=Kz (O.kept P);have⟨b7,b8,a5⟩:=dK O P a3;clear O P a3 Q;go_enter func25,ntmps25
 go_upto_region 1 with fail
 rw[<-r];clear r;go_wp2_with fail
 refine (Eo _ C D E F a2 a4.o (by omega) G).mono ?_;intro S w1 m;obtain⟨f,h,L,i,j,d,k,Kk,l,T,rfl,c4,c5,hL,a6,U,V⟩:=Gg ⟨a2,b7.o⟩ b8.o a5.o R.o.1 R.o.2 m;obtain⟨W1,H⟩:=aj ((w1.alloc (.cells #[.slice f L.length h] 25)).alloc (.cells #[.slice i Kk.length j,.slice d l.length k] 29));obtain⟨W,X⟩:=aj w1.heap.size;obtain⟨p,Y⟩:=aj (w1.heap.size+1);rw[<-H,<-X] at U;rw[<-H,<-Y] at V;have⟨I,a7,Z⟩:=dK U V a6;go_upto_region 2 with fail
 rw[<-H,<-Y,<-X];clear H X Y U V m a4 R a5 a6;go_wp2_with fail
 refine (aK _ C D E F T _ 12 rfl I.o.rd (by omega) (by omega) G).mono ?_;rintro S w2 ⟨q,rfl,c6,a8,a0⟩;have b:=Kz (a7.o.drawn I.o.rd a0);have a:=Kz (I.o.drawn a8 a0);clear a8 a0 I a7;by_cases J:q=0
 ·have e0:((q:Int) == 0)=true:=by simp[J]
  clear J;go_wp2
  refine Qx.region (by kernel_rfl) (fun u=>u.cell? ⟨W,0,none⟩=some (.slice f L.length h)/\u.cell? ⟨p,0,none⟩=some (.slice i Kk.length j)/\u.cell? ⟨p,1,none⟩=some (.slice d l.length k)) 5 ⟨(a.o.kept (aL _)).wc,(b.o.kept (aL _)).c0,(b.o.kept (aL _)).c1⟩ (fun e=>?_);have b:=Kz (b.o.kept (aL w2));have a:=Kz (a.o.kept (aL w2));generalize s:w2.drew=N at e a b⊢;clear s;refine af 0 e ?_;refine af 1 e ?_;refine af 2 e ?_;refine ak 3 (fun K c=>?_);go_simp
  go_at_call 55
  refine (Ce N C D E F (T+1) i j d k Kk l a.o.rd (by omega) G b.o.st).mono ?_;rintro S w8 ⟨a9,b0,d2,b1,b2,b3,p8,rfl,b9,c2,hU,t,n⟩;have b:=Kz (b.o.drawn a.o.rd n);have a:=Kz (a.o.drawn t n);have⟨v,w⟩:=aH hU a.o.nd;clear hU t n;dsimp only;refine ae c (fun _=>⟨a.o.wc,b.o.c0,b.o.c1⟩) ?_;clear c K e;obtain⟨_,x,y⟩:=a.o.range (.slice f L.length h) (.slice a9 b2.length b0) (.slice d2 b3.length b1);refine ak 4 (fun K c=>?_);refine a.o.w1 rfl rfl rfl ?_;refine ae c (fun _=>⟨a.o.st1 a.o.eT a.o.wl a.o.wc,a.o.st1 b.o.row b.o.sl b.o.c0,a.o.st1 b.o.row b.o.sl b.o.c1⟩) ?_;clear c K;refine ak 5 (fun K c=>?_);refine a.o.w2 rfl rfl rfl ?_;refine ae c (fun A=>absurd rfl A) ?_;clear c K;refine aB ?_;go_wp2_with fail
  exact dD [.slice f L.length h] [.slice a9 b2.length b0,.slice d2 b3.length b1] _ _ results25 rfl x underlying25 rfl Tryz.fC rfl y underlying29 rfl Tryz.bH rfl (a.o.ends w.o v.o (by omega) (by omega) (by omega) (fun d m=>(Z.o d m).mono (by omega)))
 have e0:((q:Int) == 0)=false:=by simpa using J
 clear J;by_cases h1:q=1
 ·have e1:((q:Int) == 1)=true:=by simp[h1]
  clear h1;go_wp2
  refine Qx.region (by kernel_rfl) (fun u=>u.cell? ⟨W,0,none⟩=some (.slice f L.length h)/\u.cell? ⟨p,0,none⟩=some (.slice i Kk.length j)/\u.cell? ⟨p,1,none⟩=some (.slice d l.length k)) 5 ⟨(a.o.kept (aL _)).wc,(b.o.kept (aL _)).c0,(b.o.kept (aL _)).c1⟩ (fun e=>?_);have b:=Kz (b.o.kept (aL w2));have a:=Kz (a.o.kept (aL w2));generalize s:w2.drew=N at e a b⊢;clear s;refine af 0 e ?_;refine af 1 e ?_;refine af 3 e ?_;refine ak 2 (fun K c=>?_);go_simp
  go_at_call 56
  refine (Cc 20 (by omega) N C D E F (T+1) f h L a.o.rd (by omega) G (by omega) Z.o a.o.nd).mono ?_;rintro S w8 ⟨v8,L8,p8,rfl,b9,c2,c7,b4,a1,t,n,_⟩;obtain⟨b5,b6,rfl,_,_⟩:=a1.slice;have v:=Kz ((b.o.st.noS a.o.rd.noS n).mono (M:=1) (by omega));have b:=Kz (b.o.drawn a.o.rd n);have a:=Kz (a.o.drawn t n);have⟨w,c3⟩:=aH a1 b4;clear a1 t n b4;dsimp only;refine ae c (fun _=>⟨a.o.wc,b.o.c0,b.o.c1⟩) ?_;clear c K e;obtain⟨_,x,y⟩:=a.o.range (.slice b5 L8.length b6) (.slice i Kk.length j) (.slice d l.length k);refine ak 4 (fun K c=>?_);refine a.o.w1 rfl rfl rfl ?_;refine ae c (fun _=>⟨a.o.st1 a.o.eT a.o.wl a.o.wc,a.o.st1 b.o.row b.o.sl b.o.c0,a.o.st1 b.o.row b.o.sl b.o.c1⟩) ?_;clear c K;refine ak 5 (fun K c=>?_);refine a.o.w2 rfl rfl rfl ?_;refine ae c (fun A=>absurd rfl A) ?_;clear c K;refine aB ?_;go_wp2_with fail
  exact dD [.slice b5 L8.length b6] [.slice i Kk.length j,.slice d l.length k] _ _ results25 rfl x underlying25 rfl Tryz.fC rfl y underlying29 rfl Tryz.bH rfl (a.o.ends w.o v.o (by omega) (by omega) (by omega) (fun d m=>(c3.o d m).mono (by omega)))
 have e1:((q:Int) == 1)=false:=by simp;omega
 clear h1;have c8:=Kz b.o.st;go_wp2
 refine Qx.region (by kernel_rfl) (fun u=>u.cell? ⟨W,0,none⟩=some (.slice f L.length h)/\u.cell? ⟨p,0,none⟩=some (.slice i Kk.length j)/\u.cell? ⟨p,1,none⟩=some (.slice d l.length k)) 3 ⟨(a.o.kept (aL _)).wc,(b.o.kept (aL _)).c0,(b.o.kept (aL _)).c1⟩ (fun e=>?_);have b:=Kz (b.o.kept (aL w2));have a:=Kz (a.o.kept (aL w2));generalize s:w2.drew=N at e a b⊢;clear s;refine af 0 e ?_;refine af 1 e ?_;have v:=Kz (b.o.st.mono (M:=1) (by omega));have w:=Kz a.o.nd;obtain⟨_,x,y⟩:=a.o.range (.slice f L.length h) (.slice i Kk.length j) (.slice d l.length k);refine ak 2 (fun K c=>?_);refine a.o.w1 rfl rfl rfl ?_;refine ae c (fun _=>⟨a.o.st1 a.o.eT a.o.wl a.o.wc,a.o.st1 b.o.row b.o.sl b.o.c0,a.o.st1 b.o.row b.o.sl b.o.c1⟩) ?_;clear c K;refine ak 3 (fun K c=>?_);refine a.o.w2 rfl rfl rfl ?_;refine ae c (fun A=>Lv rfl A) ?_;clear c K;refine aB ?_;go_wp2_with fail
 exact dD [.slice f L.length h] [.slice i Kk.length j,.slice d l.length k] _ _ results25 rfl x underlying25 rfl Tryz.fC rfl y underlying29 rfl Tryz.bH rfl (a.o.ends w.o v.o (by omega) (by omega) (by omega) (fun d m=>(Z.o d m).mono (by omega)))
theorem Bq.JM{a:List Qq}{c:List Int}{T e:List Qz}{D f:List LK}(j:Bq a c T D e f)(k:bT (Q_ a)):dB a T->dB a e:=by
 induction j with
 | stop _=>exact id
 | @step T e D f ns r hR hn hr _ ih=>
  intro h;have l:ns.getD (lK c D.length ns.length) ByteArray.empty∈ns:=by
   have i:=qZ c D.length hn;simp only[List.getD,JV i,Lx];exact J_ i
  obtain⟨m,n,p⟩:=(hR.ready h.asc _).1 l;obtain rfl:r=m:=Lf (hr.symm.trans n);exact ih (qI k h (bF hr).1 p)
theorem FC{w:LP}{e:List Qq}{Kk:List LK}{b:List Qz}{f d:LM}{h:Nat}(i:bn e 0)(a:eO Kk)(j:dB e b)(l:Kk.length<=h)(c:Strs w f Kk)(m:bD w d b):StU 1 w f h d Kk b:=by
 have s:=a.2.1;have t:=j.len;have v:=gG i;exact⟨by omega,l,fun x c=>(by
  obtain⟨n,k,rfl⟩:=Kb c;have p:=(a.2.2 n k).1.2.1;simp only[List.getD,JV k,Lx] at p;omega),fun q=>(by cases q),c,by omega,fun r a=>(yg (aZ i) (j.good r a)).mono (JR _),m⟩
theorem pI(w:LP)(a:LM)(t:Nat)(b:List Qq)(h i:Nat)(s:LK)(q:Nat)(C:b.length<=1048576)(D:∀y∈b,y.Fits)(v:s.size<=2)(P:q<=100)
  (E:bN w a b) (F:Strs w (some ⟨h,0,none⟩) [s]) (j:Ints w (some ⟨i,0,none⟩) [(q:Int)]):
  Calls prog 23 #[.agg #[.slice a b.length t],.slice (some ⟨h,0,none⟩) 1 1,.slice (some ⟨i,0,none⟩) 1 1] w fun e w'=>∃(c:LM) (f:Nat) (d:LM) (k:Nat) (Kk:List LK) (sl:List Qz) (x:LM) (y z:Nat),e= .returned (.agg #[.slice c Kk.length f,.slice d sl.length k,.slice x y z])/\StU 1 w' c f d Kk sl/\K_ w w':=by
 refine (wN w a t b (some ⟨h,0,none⟩) 1 [s] (some ⟨i,0,none⟩) 1 [(q:Int)] C D (by simp) (fun x l=>?_) (by simp) (fun x l=>?_) E F j).mono ?_
 ·rw[JY.1 l];unfold maxLen;omega
 ·rw[JY.1 l];unfold In64;omega
 rintro e w' (⟨⟨m,n⟩,T,Q,G,c,f,d,k,R,H,I,rfl,J,K,j,_,p⟩|⟨_,rfl,p⟩)
 ·obtain⟨S,U,A,L,M⟩:=bg J;simp only[KX,true_and] at A;obtain⟨rfl,rfl⟩:=A;obtain⟨_,V,W,B,N⟩:=aW.runs K j (K_.refl _);simp only[KX,true_and] at B;obtain⟨rfl,rfl⟩:=B;exact⟨c,f,d,k,_,T,H,_,I,rfl,FC m n (G.JM (aZ m) (gX (aZ m) _)) L M.strs N.runs,p⟩
 ·exact⟨none,0,none,0,[],[],none,0,0,rfl,⟨by simp,JP _,fun s v=>(by cases v),fun e=>(by cases e),fun O r=>(by simp at r),by simp,fun X n=>(by cases n),fun O r=>(by simp at r)⟩,p⟩
structure DR (w wr:LP):Prop where
 kw:K_ w wr
 r1:aC wr w.heap.size 25 1
 n1:NoS wr w.heap.size
 r2:SZ wr (w.heap.size+1)
structure DV (w wr:LP) (rb wb:Nat) (a:LM) (cap:Nat) (bs:List UInt8) (p:Nat) (na:LM) (nc:Nat) (L:List Qq):Prop where
 d:DR w wr
 rd:Rd wr rb a cap bs p
 rl:w.heap.size+2<=rb
 row:aC wr wb 25 1
 wc:wr.cell? ⟨wb,0,none⟩=some (.slice na L.length nc)
 wl:w.heap.size+2<=wb
 nd:bB wr (.slice na L.length nc) L
def GA(M N:Nat)(w w':LP)(e:Ending):Prop:=
 ∃(na:LM) (nc:Nat) (L:List Qq) (ra:LM) (rc:Nat) (d:LM) (dc:Nat) (Kk:List LK) (sl:List Qz),e= .returned (.tuple #[.agg #[.slice na L.length nc],.agg #[.slice ra Kk.length rc,.slice d sl.length dc]])/\L.length<=N/\(∀d∈L,d.TinyN M)/\bB w' (.slice na L.length nc) L/\StU 1 w' ra rc d Kk sl/\K_ w w'
section
variable {w wr w' : LP} {rb wb : Nat} {a : LM} {cap : Nat} {bs : List UInt8} {p p' : Nat} {na : LM} {nc : Nat} {L : List Qq} {ra : LM} {rc : Nat} {d : LM} {dc : Nat} {Kk : List LK} {sl : List Qz}
theorem DR.made(w:LP):DR w ((w.alloc (.cells #[.slice none 0 0] 25)).alloc (.cells #[.slice none 0 0,.slice none 0 0] 29)):=⟨(ag _ _).alloc _,(qx w).1.1,(qx w).1.2,(qx w).2⟩
theorem DR.but(h:DR w wr)(d:w.heap.size+2<=rb)(k:Xk rb (rb+1) wr w'):DR w w':=by
 have b:=k.block _ h.r1.lt (by omega);have c:=k.block _ h.r2.1.lt (by omega);exact⟨k.kept h.kw (by omega),h.r1.block b,h.n1.block b,h.r2.1.block c,h.r2.2.block c⟩
theorem DR.kept(h:DR w wr)(k:K_ wr w'):DR w w':=⟨h.kw.trans k,h.r1.kept k,h.n1.block (k.block _ h.r1.lt),h.r2.kept k⟩
theorem DV.drawn(h:DV w wr rb wb a cap bs p na nc L)(e:Rd w' rb a cap bs p')(k:Xk rb (rb+1) wr w'):DV w w' rb wb a cap bs p' na nc L:=by
 have c:=k.block _ h.row.lt (by have:=uQ h.row h.rd.row (by decide);omega);exact⟨h.d.but h.rl k,e,h.rl,h.row.block c,(Ke (w:=wr) c).trans h.wc,h.wl,h.nd.same (k.sameKind h.rd) (by decide) (by decide) (by decide) (by decide)⟩
theorem DV.kept(h:DV w wr rb wb a cap bs p na nc L)(k:K_ wr w'):DV w w' rb wb a cap bs p na nc L:=⟨h.d.kept k,h.rd.kept k,h.rl,h.row.kept k,(k.cell h.row.lt).trans h.wc,h.wl,h.nd.kept k⟩
theorem DR.set(h:DR w wr)(v:LQ):Xk w.heap.size (w.heap.size+1) wr (wr.setCells w.heap.size 0 [v])/\SZ (wr.setCells w.heap.size 0 [v]) (w.heap.size+1):=by
 have b:Xk w.heap.size (w.heap.size+1) wr (wr.setCells w.heap.size 0 [v]):=Xk.sets (JP _) (Ky _) _ 0 (Xk.refl _ _ _);have c:=b.block _ h.r2.1.lt (by omega);exact⟨b,h.r2.1.block c,h.r2.2.block c⟩
theorem DR.fin{M N:Nat}{i:Func}{b:Act}(h:DR w wr)(j:bB wr (.slice na L.length nc) L)(k:StU 1 wr ra rc d Kk sl)(l:i.results= #[.cell 2 25,.cell 3 29])(m:L.length<=N)(n:∀d∈L,d.TinyN M)(h2:b.tmps.getD 2 undef= .pointer (some ⟨w.heap.size,0,none⟩))(p:b.tmps.getD 3 undef= .pointer (some ⟨w.heap.size+1,0,none⟩))(q:b.defers=[]):
  bodyPost prog i (fun e w'=>GA M N w w' e) .ret b ((wr.setCells w.heap.size 0 [.slice na L.length nc]).setCells (w.heap.size+1) 0 [.slice ra Kk.length rc,.slice d sl.length dc]):=by
 obtain⟨a,c⟩:=h.set (.slice na L.length nc);have f:Xk (w.heap.size+1) (w.heap.size+1+1) (wr.setCells w.heap.size 0 [.slice na L.length nc]) ((wr.setCells w.heap.size 0 [.slice na L.length nc]).setCells (w.heap.size+1) 0 [.slice ra Kk.length rc,.slice d sl.length dc]):=Xk.sets (JP _) (Ky _) _ 0 (Xk.refl _ _ _);refine dD [.slice na L.length nc] [.slice ra Kk.length rc,.slice d sl.length dc] _ _ l h2 (fun r x s=>?_) underlying25 rfl Tryz.fC p (JU _ (w.heap.size+1) 0 _ (cK c.1)) underlying29 rfl Tryz.bH q ⟨na,nc,L,ra,rc,d,dc,Kk,sl,rfl,m,n,(j.same (ky a h.r1) (by decide) (by decide) (by decide) (by decide)).same (ky f c.1) (by decide) (by decide) (by decide) (by decide),(k.noS h.n1 a).noS c.2 f,f.kept (a.kept h.kw (JP _)) (by omega)⟩;rw[World.cell?_setCells_out (w.heap.size+1) _ 0 _ _ (fun e _=>by have t:w.heap.size=w.heap.size+1:=e;omega)];exact JU wr w.heap.size 0 _ (cK h.r1) r x s
theorem DV.st(h:DV w wr rb wb a cap bs p na nc L){v:LQ}:(wr.setCells w.heap.size 0 [v]).cell? ⟨wb,0,none⟩=some (.slice na L.length nc):=((h.d.set v).1.cell h.row.lt (by have:=h.wl;omega)).trans h.wc
theorem DV.w1{c:Oper}{x y:Operand}{b:Act}{K:Act->LP->Prop}{Q:Exit->Act->LP->Prop}(h:DV w wr rb wb a cap bs p na nc L)(i:c.op= .store 25 x y)(j:b.eval x= .pointer (some ⟨w.heap.size,0,none⟩))(k:b.eval y= .agg #[.slice na L.length nc])(l:K (b.put c.dst undef) (wr.setCells w.heap.size 0 [.slice na L.length nc])):c.wp prog b wr K Q:=
 wp_store_mid 25 _ _ i w.heap.size 0 #[.slice na L.length nc] j k (cK h.d.r1) (by kernel_rfl) (Bt ..) l
theorem DV.w2{c:Oper}{x y:Operand}{b:Act}{K:Act->LP->Prop}{Q:Exit->Act->LP->Prop}{k m:Nat}(h:DV w wr rb wb a cap bs p na nc L)(i:c.op= .store 29 x y)(j:b.eval x= .pointer (some ⟨w.heap.size+1,0,none⟩))(l:b.eval y= .agg #[.slice ra m rc,.slice d k dc])(n:K (b.put c.dst undef) ((wr.setCells w.heap.size 0 [.slice na L.length nc]).setCells (w.heap.size+1) 0 [.slice ra m rc,.slice d k dc])):c.wp prog b (wr.setCells w.heap.size 0 [.slice na L.length nc]) K Q:=
 wp_store_mid 29 _ _ i (w.heap.size+1) 0 #[.slice ra m rc,.slice d k dc] j l (cK (h.d.set (.slice na L.length nc)).2.1) (by kernel_rfl) (jT ..) n
theorem DV.fin{M N:Nat}{b:Act}(h:DV w wr rb wb a cap bs p na nc L)(c:StU 1 wr ra rc d Kk sl)(f:L.length<=N)(i:∀d∈L,d.TinyN M)(h2:b.tmps.getD 2 undef= .pointer (some ⟨w.heap.size,0,none⟩))(j:b.tmps.getD 3 undef= .pointer (some ⟨w.heap.size+1,0,none⟩))(k:b.defers=[]):bodyPost prog f5 (fun e w'=>GA M N w w' e) .ret b ((wr.setCells w.heap.size 0 [.slice na L.length nc]).setCells (w.heap.size+1) 0 [.slice ra Kk.length rc,.slice d sl.length dc]):=
 h.d.fin h.nd c results5 f i h2 j k
theorem rH(w:LP)(s:LK):Strs (w.alloc (.cells #[.string s] 9)) (some ⟨w.heap.size,0,none⟩) [s]:=fun i b=>by
 obtain rfl:i=0:=by simp at b;omega
 exact⟨w.heap.size,0,rfl,by simp,Xz w _ _ 0 _ rfl⟩
theorem rF(w:LP)(q:Nat):Ints (w.alloc (.cells #[.int .i64 (q:Int)] 3)) (some ⟨w.heap.size,0,none⟩) [(q:Int)]:=fun i b=>by
 obtain rfl:i=0:=by simp at b;omega
 exact⟨w.heap.size,0,rfl,by simp,Xz w _ _ 0 _ rfl⟩
theorem Ej{b:LM}{l:List Int}(h:Ints w b l)(k:K_ w w'):Ints w' b l:=fun i c=>by
 obtain⟨b,o,d,a,e⟩:=h i c;exact⟨b,o,d,JQ a k.size,(k.cell a).trans e⟩
end
theorem vL(w:LP)(a:LM)(t:Nat)(D:List UInt8)(hB:BytesAt w a D)(b5:D.length<=t)(b6:D.length<=100000000):
  Calls prog 5 #[.slice a D.length t] w fun e w'=>GA 30 200 w w' e:=by
 obtain⟨W0,X⟩:=aj ((w.alloc (.cells #[.slice none 0 0] 25)).alloc (.cells #[.slice none 0 0,.slice none 0 0] 29));have Q:=DR.made w;have a7:W0.heap.size=w.heap.size+2:=by rw[X];simp
 rw[<-X] at Q;have⟨a8,a9⟩:=aH a7 Q;have b0:Hid (BytesAt W0 a D):=fun b7 hi=>by
  obtain⟨b8,o,e,hb,hc⟩:=hB b7 hi;exact⟨b8,o,e,JQ hb Q.kw.size,(Q.kw.cell hb).trans hc⟩
 clear hB Q a7;go_enter func5,ntmps5
 go_upto_region 1 with fail
 rw[<-X];clear X;go_wp2_with fail
 refine (Fv _ a t D b0.o b5 b6).mono ?_;rintro e wA ⟨A,rfl,b9,a4,kA⟩;obtain⟨B,a5⟩:=aj (D.take 2000);have G:B.length<=2000:=by rw[a5,Kt];omega
 rw[<-a5] at a4;have b1:=Kz a4;have HD:=Kz (a9.o.kept kA);have Y:w.heap.size+2<=A:=by have:=a8.o;omega
 clear a4 kA a5 b0 a9 a8 b9;go_wp2_with fail
 refine (aK _ A a t B 0 _ 2 rfl b1.o (by omega) (by omega) G).mono ?_;rintro e w2 ⟨q2,rfl,c0,b2,b3⟩;have Z:=Kz b2;have a0:=Kz (HD.o.but Y b3);clear b2 b3 b1 HD c0;by_cases h0:q2=0
 ·have c1:((q2:Int) == 0)=true:=by simp[h0]
  clear h0;go_wp2_with fail
  refine (Al _ A a t B _ Z.o (by omega) G).mono ?_;rintro e H ⟨c7,L,R,rfl,c2,c3,hL,I,J,a1,S,_⟩;obtain⟨E,F,rfl,_,_⟩:=J.slice;obtain⟨W1,T⟩:=aj (H.alloc (.cells #[.slice E L.length F] 25));obtain⟨wb,a2⟩:=aj H.heap.size;have c:Hid (DV w W1 A wb a t B R E F L):=by
   have k1:K_ H W1:=by rw[T];exact ag _ _
   have h3:=a0.o.but Y S;have zb:=h3.r2.1.lt;refine⟨h3.kept k1,a1.kept k1,Y, ?_, ?_,by omega,J.kept k1⟩
   ·rw[T,a2];exact aC.made H _ _
   ·rw[T,a2];exact Xz H _ _ 0 _ rfl
  have a6:=Kz (rX (by omega) I);have M:Hid (∀d∈L,d.TinyN 30):=fun d hd=>(I d hd).mono (by omega)
  have N:L.length<=200:=by omega
  go_upto_region 4 with fail
  rw[<-T,<-a2];clear T a2 I J a1 S a0 Z;refine Qx.region (by kernel_rfl) (fun u=>u.cell? ⟨wb,0,none⟩=some (.slice E L.length F)) 12 (c.o.kept (aL _)).wc (fun O=>?_);have c:=Kz (c.o.kept (aL W1));generalize c4:W1.drew=wd at O c⊢;clear c4;refine af 0 O ?_;refine af 1 O ?_;refine af 2 O ?_;refine af 6 O ?_;clear O;refine ak 3 (fun K b=>?_);go_simp
  go_at_call 21
  refine (aK wd A a t B (R) _ 3 rfl c.o.rd (by omega) (by omega) G).mono ?_;rintro e w4 ⟨q4,rfl,c8,C,y⟩;have c:=Kz (c.o.drawn C y);clear C y;dsimp only;refine ae b (fun _=>c.o.wc) ?_;clear b K;refine ak 4 (fun K b=>?_);go_simp
  go_at_call 24
  refine (jG w4 q4 (by omega)).mono ?_;rintro e P ⟨s,rfl,hs,k5⟩;have c:=Kz (c.o.kept k5);clear k5;dsimp only;refine ae b (fun _=>c.o.wc) ?_;clear b K;refine dx 5 7 (fun K b=>?_) (fun K b=>?_)
  ·rw[Lt (by rfl)];go_simp
   have f:=Kz (rH P s);have h:K_ P (P.alloc (.cells #[.string s] 9)):=ag _ _;have c:=Kz (c.o.kept h);obtain⟨n,i⟩:=aj P.heap.size;rw[<-i] at f⊢;refine ae b (fun _=>c.o.wc) ?_;clear b K i;generalize p:P.alloc (.cells #[.string s] 9)=m at c f⊢;clear p h;refine ak 7 (fun K b=>?_);go_simp
   go_at_call 21
   refine (aK m A a t B (R+1) _ 5 rfl c.o.rd (by omega) (by omega) G).mono ?_;rintro e j ⟨l,rfl,c5,C,y⟩;have f:=Kz (f.o.noS c.o.rd.noS y);have c:=Kz (c.o.drawn C y);clear C y;dsimp only;refine ae b (fun _=>c.o.wc) ?_;clear b K;refine ak 8 (fun K b=>?_);go_simp
   have k:=Kz (rF j l);have h:K_ j (j.alloc (.cells #[.int .i64 (l:Int)] 3)):=ag _ _;have c:=Kz (c.o.kept h);have f:=Kz (f.o.kept h);obtain⟨U,i⟩:∃n,n=j.heap.size:=⟨_,rfl⟩;rw[<-i] at k⊢;refine ae b (fun _=>c.o.wc) ?_;clear b K i;generalize p:j.alloc (.cells #[.int .i64 (l:Int)] 3)=V at c f k⊢;clear p h;refine ak 9 (fun K b=>?_);go_simp
   go_at_call 23
   refine (pI V E F L n U s l (by omega) a6.o hs (by omega) c.o.nd.nodes f.o k.o).mono ?_;rintro e w9 ⟨ra,rc,d,dc,Kk,sl,x,b4,z,rfl,q,W⟩;have c:=Kz (c.o.kept W);have v:=Kz q;clear q f k;dsimp only;refine ae b (fun _=>c.o.wc) ?_;clear b K;refine dx 10 11 (fun K b=>?_) (fun K b=>?_)
   ·rw[Lt (by rfl)];go_simp
    refine ae b (fun _=>c.o.wc) ?_;clear b K;refine ak 11 (fun K b=>?_);refine c.o.w1 rfl rfl rfl ?_;refine ae b (fun _=>c.o.st) ?_;clear b K;refine ak 12 (fun K b=>?_);refine c.o.w2 rfl rfl rfl ?_;refine ae b (fun r=>Lv rfl r) ?_;clear b K;refine aB ?_;go_wp2_with fail
    exact c.o.fin v.o N M.o rfl rfl rfl
   ·rw[Lt (by rfl)];refine c.o.w1 rfl rfl rfl ?_;refine ae b (fun _=>c.o.st) ?_;clear b K;refine ak 10 (fun K b=>?_);go_simp
    refine ae b (fun _=>c.o.st) ?_;clear b K;refine ak 12 (fun K b=>?_);refine c.o.w2 rfl rfl rfl ?_;refine ae b (fun r=>Lv rfl r) ?_;clear b K;refine aB ?_;go_wp2_with fail
    exact c.o.fin v.o N M.o rfl rfl rfl
  ·rw[Lt (by rfl)];go_simp
   go_at_call 21
   refine (aK P A a t B (R+1) _ 5 rfl c.o.rd (by omega) (by omega) G).mono ?_;rintro e m ⟨l,rfl,c5,C,y⟩;have c:=Kz (c.o.drawn C y);clear C y;dsimp only;refine ae b (fun _=>c.o.wc) ?_;clear b K;refine dx 5 8 (fun K b=>?_) (fun K b=>?_)
   ·rw[Lt (by rfl)];go_simp
    have f:=Kz (rH m s);have h:K_ m (m.alloc (.cells #[.string s] 9)):=ag _ _;have c:=Kz (c.o.kept h);obtain⟨n,i⟩:=aj m.heap.size;rw[<-i] at f⊢;refine ae b (fun _=>c.o.wc) ?_;clear b K i;generalize p:m.alloc (.cells #[.string s] 9)=j at c f⊢;clear p h;refine ak 8 (fun K b=>?_);go_simp
    have k:=Kz (rF j l);have h:K_ j (j.alloc (.cells #[.int .i64 (l:Int)] 3)):=ag _ _;have c:=Kz (c.o.kept h);have f:=Kz (f.o.kept h);obtain⟨U,i⟩:∃n,n=j.heap.size:=⟨_,rfl⟩;rw[<-i] at k⊢;refine ae b (fun _=>c.o.wc) ?_;clear b K i;generalize p:j.alloc (.cells #[.int .i64 (l:Int)] 3)=V at c f k⊢;clear p h;refine ak 9 (fun K b=>?_);go_simp
    go_at_call 23
    refine (pI V E F L n U s l (by omega) a6.o hs (by omega) c.o.nd.nodes f.o k.o).mono ?_;rintro e w9 ⟨ra,rc,d,dc,Kk,sl,x,b4,z,rfl,q,W⟩;have c:=Kz (c.o.kept W);have v:=Kz q;clear q f k;dsimp only;refine ae b (fun _=>c.o.wc) ?_;clear b K;refine dx 10 11 (fun K b=>?_) (fun K b=>?_)
    ·rw[Lt (by rfl)];go_simp
     refine ae b (fun _=>c.o.wc) ?_;clear b K;refine ak 11 (fun K b=>?_);refine c.o.w1 rfl rfl rfl ?_;refine ae b (fun _=>c.o.st) ?_;clear b K;refine ak 12 (fun K b=>?_);refine c.o.w2 rfl rfl rfl ?_;refine ae b (fun r=>Lv rfl r) ?_;clear b K;refine aB ?_;go_wp2_with fail
     exact c.o.fin v.o N M.o rfl rfl rfl
    ·rw[Lt (by rfl)];refine c.o.w1 rfl rfl rfl ?_;refine ae b (fun _=>c.o.st) ?_;clear b K;refine ak 10 (fun K b=>?_);go_simp
     refine ae b (fun _=>c.o.st) ?_;clear b K;refine ak 12 (fun K b=>?_);refine c.o.w2 rfl rfl rfl ?_;refine ae b (fun r=>Lv rfl r) ?_;clear b K;refine aB ?_;go_wp2_with fail
     exact c.o.fin v.o N M.o rfl rfl rfl
   ·rw[Lt (by rfl)];go_simp
    have k:=Kz (rF m l);have h:K_ m (m.alloc (.cells #[.int .i64 (l:Int)] 3)):=ag _ _;have c:=Kz (c.o.kept h);obtain⟨U,i⟩:∃n,n=m.heap.size:=⟨_,rfl⟩;rw[<-i] at k⊢;refine ae b (fun _=>c.o.wc) ?_;clear b K i;generalize p:m.alloc (.cells #[.int .i64 (l:Int)] 3)=j at c k⊢;clear p h;refine ak 5 (fun K b=>?_);go_simp
    have f:=Kz (rH j s);have h:K_ j (j.alloc (.cells #[.string s] 9)):=ag _ _;have c:=Kz (c.o.kept h);have k:=Kz (Ej k.o h);obtain⟨n,i⟩:=aj j.heap.size;rw[<-i] at f⊢;refine ae b (fun _=>c.o.wc) ?_;clear b K i;generalize p:j.alloc (.cells #[.string s] 9)=V at c f k⊢;clear p h;refine ak 9 (fun K b=>?_);go_simp
    go_at_call 23
    refine (pI V E F L n U s l (by omega) a6.o hs (by omega) c.o.nd.nodes f.o k.o).mono ?_;rintro e w9 ⟨ra,rc,d,dc,Kk,sl,x,b4,z,rfl,q,W⟩;have c:=Kz (c.o.kept W);have v:=Kz q;clear q f k;dsimp only;refine ae b (fun _=>c.o.wc) ?_;clear b K;refine dx 10 11 (fun K b=>?_) (fun K b=>?_)
    ·rw[Lt (by rfl)];go_simp
     refine ae b (fun _=>c.o.wc) ?_;clear b K;refine ak 11 (fun K b=>?_);refine c.o.w1 rfl rfl rfl ?_;refine ae b (fun _=>c.o.st) ?_;clear b K;refine ak 12 (fun K b=>?_);refine c.o.w2 rfl rfl rfl ?_;refine ae b (fun r=>Lv rfl r) ?_;clear b K;refine aB ?_;go_wp2_with fail
     exact c.o.fin v.o N M.o rfl rfl rfl
    ·rw[Lt (by rfl)];refine c.o.w1 rfl rfl rfl ?_;refine ae b (fun _=>c.o.st) ?_;clear b K;refine ak 10 (fun K b=>?_);go_simp
     refine ae b (fun _=>c.o.st) ?_;clear b K;refine ak 12 (fun K b=>?_);refine c.o.w2 rfl rfl rfl ?_;refine ae b (fun r=>Lv rfl r) ?_;clear b K;refine aB ?_;go_wp2_with fail
     exact c.o.fin v.o N M.o rfl rfl rfl
 ·have c1:((q2:Int) == 0)=false:=by simpa using h0
  clear h0;go_wp2_with fail
  refine (Gx _ A a t B _ Z.o (by omega) G).mono ?_;rintro e H ⟨E,F,L,ra,rc,d,dc,Kk,sl,R,rfl,c2,c3,hL,I,J,q,a1,S⟩;have a3:=Kz (a0.o.but Y S);have⟨HG,v,c6⟩:=dK J q I;obtain⟨⟨_,x0⟩,c9⟩:=a3.o.r1.row.at (i:=0) (by omega);obtain⟨⟨_,x1⟩,f1⟩:=a3.o.r2.1.row.at (i:=0) (by omega);obtain⟨⟨_,x2⟩,d0⟩:=a3.o.r2.1.row.at (i:=1) (by omega);clear I J q a1 S a0 Z;go_wp2_with fail
  exact a3.o.fin HG.o v.o results5 hL c6.o rfl rfl rfl
theorem ze(w:LP)(a:LM)(p:Nat)(l:List LK)(x:LK)(v:l.length<=1048576)(q:Strs w a l):
  Calls prog 9 #[.slice a l.length p,.string x] w fun e w'=>Says e (x∈l)/\w'=w:=by
 go_enter func9,ntmps9
 go_wp2
 go_loopw [5] (fun i wr=>∃k:Nat,k<=l.length/\i= .int .i64 (k:Int)/\Hid (x∉l.take k)/\wr=w) (fun i _=>l.length-(intOf i).toNat)
 case atStart=>exact⟨0,JR _,rfl,Kz (by simp),rfl⟩
 case round=>
  obtain⟨k,A,rfl,j,rfl⟩:=hrel;by_cases c:k<l.length
  ·obtain⟨b,o,r,B,s⟩:=q k c;subst r;obtain⟨y,d⟩:=aj (l.getD k ByteArray.empty);rw[<-d] at s;have m:l[k]=y:=by rw[d];simp[List.getD,c]
   have n:=Kz m;have C:(k:Int)<(l.length:Int):=by omega
   clear d m;cases f:(y.toList == x.toList)
   ·go_wp2
    go_roundw
    case rel=>
     refine⟨k+1,by omega,by go_num,Kz (fun h=>?_),trivial⟩;rw[JX c,n.o] at h;rcases JZ.1 h with h | h
     ·exact j.o h
     ·rw[JY] at h;rw[h] at f;simp at f
    case measure=>simp[intOf];omega
   ·go_wp2
    go_ret
    exact⟨Says.yes (by rw[<-Dw f,<-n.o];exact J_ c),rfl⟩
  ·have D:¬((k:Int)<(l.length:Int)):=by omega
   have t:Hid (x∉l):=by have h:=j.o;rw[KJ (by omega)] at h;exact h
   clear c;go_wp2
   go_ret
   exact⟨Says.no t.o,rfl⟩
theorem vK(w:LP)(a f:LM)(j m:Nat)(l:List LK)(r:l.length<=1048576)(n:Strs w a l)(p:Strs w f l):
  Calls prog 7 #[.slice a l.length j,.slice f l.length m] w fun e w'=>e= .returned (.bool true)/\K_ w w':=by
 go_enter func7,ntmps7
 go_wp2
 go_loopw [5] (fun i wr=>∃k:Nat,k<=l.length/\i= .int .i64 k/\K_ w wr) (fun i _=>l.length-(intOf i).toNat)
 case atStart=>exact⟨0,JR _,rfl,K_.refl _⟩
 case round=>
  obtain⟨k,s,rfl,d⟩:=hrel;by_cases h:k<l.length
  ·obtain⟨b,o,rfl,t,v⟩:=n.kept d k h;obtain⟨x,y,rfl,A,B⟩:=p.kept d k h;generalize l.getD k ByteArray.empty=c at *;have q:(k:Int)<(l.length:Int):=by omega
   go_wp2
   go_region
   all_goals
    go_wp2
    go_roundw
    case rel=>exact⟨k+1,by omega,by go_num,by repeat (first | assumption | apply K_.drew)⟩
    case measure=>simp[intOf];omega
  ·have q:¬(k:Int)<(l.length:Int):=by omega
   go_wp2
   go_ret
   exact⟨rfl,d⟩
variable {Kq : List Qq}
theorem vO{a:List Qz}(x y:LK)(h:aS (Q_ Kq) (Qj a) x y):y∈a.map (·.name):=by
 obtain⟨_,_,_,_,_,_,_,r,e,_⟩:=h;have b:=bF e;rw[<-b.2];exact Ku.2 ⟨r,b.1,rfl⟩
def FE(Kq:List Qq)(sl:List Qz)(name:LK)(w w':LP)(e:Ending):Prop:=∃av cv ns,e= .returned (.slice av ns.length cv)/\ns.length<=cv/\Strs w' av ns/\zF (aS (Q_ Kq) (Qj sl)) name ns/\w'.ownsRow w.heap.size 9 1 (.slice av ns.length cv) ns.length (ns.map Value.string)/\K_ w w'
theorem og(w:LP)(a:LM)(m:Nat)(f:List Qq)(t:LM)(v x:Nat)(d:LM)(y:Nat)(c:List Qz)(J:LK)(b9:f.length<=1048576)(j3:c.length<=1000)(a4:bT (Q_ f))(hg:dB f c)(hN:bN w a f)(hS:bD w d c):
  Calls prog 37 #[.agg #[.slice a f.length m],.agg #[.slice t v x,.slice d c.length y],.string J] w fun e w'=>FE f c J w w' e:=by
 obtain⟨n,D⟩:=aj ((w.alloc (.cells #[.slice a f.length m] 25)).alloc (.cells #[.slice t v x,.slice d c.length y] 29));have kB:K_ w n:=by rw[D];exact (ag _ _).alloc _
 have f7:n.heap.size=w.heap.size+2:=by rw[D];simp
 have c1:n.cell? ⟨w.heap.size,0,none⟩=some (.slice a f.length m):=by rw[D,K_.cell (w:=w.alloc (.cells #[.slice a f.length m] 25)) (ag _ _) (by simp)];exact Xz w _ _ 0 _ rfl
 have s0:n.cell? ⟨w.heap.size+1,0,none⟩=some (.slice t v x):=by have:=Xz (w.alloc (.cells #[.slice a f.length m] 25)) #[.slice t v x,.slice d c.length y] 29 0 _ rfl;rw[KR] at this;rw[D];exact this
 have s1:n.cell? ⟨w.heap.size+1,1,none⟩=some (.slice d c.length y):=by have:=Xz (w.alloc (.cells #[.slice a f.length m] 25)) #[.slice t v x,.slice d c.length y] 29 1 _ rfl;rw[KR] at this;rw[D];exact this
 have z0:w.heap.size<n.heap.size:=by omega
 have z1:w.heap.size+1<n.heap.size:=by omega
 have T:Hid (∀w',K_ n w'->w'.cell? ⟨w.heap.size,0,none⟩=some (.slice a f.length m)/\w'.cell? ⟨w.heap.size+1,0,none⟩=some (.slice t v x)/\w'.cell? ⟨w.heap.size+1,1,none⟩=some (.slice d c.length y)/\w.heap.size<w'.heap.size/\w.heap.size+1<w'.heap.size):=fun w' K=>⟨(K.cell z0).trans c1,(K.cell z1).trans s0,(K.cell z1).trans s1,JQ z0 K.size,JQ z1 K.size⟩
 have c2:c.length<=1048576:=by omega
 obtain⟨ic,f8,f9,g0,g1⟩:=aQ Tryz.bY;have⟨A,a5⟩:=aH kB hg;clear kB f7 hg;go_enter func37,ntmps37
 go_upto_region 1 with fail
 rw[<-D];clear D;go_wp2_with fail
 refine (sI n a m f t v x d y c J b9 c2 a4 a5.o (hN.kept A.o) (hS.kept A.o)).mono ?_;rintro e w1 ⟨⟨j4,o1,c3,n1,rfl,c4,c5,U,c6⟩,k1⟩;have E:=Kz (jP c6 A.o.size);clear c6;have c7:=Kz c5;have c8:Hid (jX (aS (Q_ f) (Qj c)) J n1):=⟨U.1,fun s F=>⟨0,aR.one ((U.2 s).1 F)⟩,fun s F=>(U.2 s).2 F⟩;clear c1 s0 s1 c5 U;go_wp2
 go_loopw [7,8] (fun x7 x8 wr=>∃(i:Nat) (G:LM) (H:Nat) (out:List LK),i<=c.length/\x8= .int .i64 (i:Int)/\x7= .slice G out.length H/\out.length<=H/\(i<=out.length\/i=0)/\Hid (i=0\/i<out.length)/\Hid (Strs wr G out)/\Hid (wr.ownsRow w.heap.size 9 1 (.slice G out.length H) out.length (out.map Value.string))/\Hid (jX (aS (Q_ f) (Qj c)) J out)/\K_ n wr) (fun _ x8 _=>c.length-(intOf x8).toNat)
 case atStart=>exact⟨0,_,_,n1,JR _,rfl,rfl,c4,.inr rfl,Kz (.inl rfl),c7,E,c8,k1⟩
 case round=>
  clear c7 c8 k1 c4 E;obtain⟨i,G,H,out,hi,rfl,rfl,d0,_,d1,P,a6,I,V⟩:=hrel;obtain⟨c0,c3,g2,y0,y1⟩:=T.o _ V;have j5:out.length<=c.length:=by have h:=I.o.len (names:=c.map (·.name)) vO;rwa [Lm] at h
  by_cases g3:i<c.length;rotate_left
  ·have j6:¬((i:Int)<(c.length:Int)):=by omega
   have g4:Hid (out=[]\/False):=by
    rcases d1.o with h|h
    ·exact .inl (LB (by omega))
    ·omega
   have a7:Hid (zF (aS (Q_ f) (Qj c)) J out):=by
    rcases g4.o with h|h
    ·exact I.o.done (more:=out) (by rw[h];exact gy.start (by rw[<-h];exact I.o.asc)) rfl
    ·exact h.elim
   clear g3;go_wp2
   go_ret
   exact⟨G,H,out,rfl,d0,P.o,a7.o,a6.o,A.o.trans V⟩
  have j7:(i:Int)<(c.length:Int):=by omega
  have a8:Hid ((wr.alloc (.cells #[] 9)).ownsRow wr.heap.size 9 1 (.slice (some ⟨wr.heap.size,0,none⟩) 0 0) 0 (([]:List LK).map Value.string)):=KG wr #[] 0 (JP _) (JR _) rfl;have d2:wr.heap.size<=(wr.alloc (.cells #[] 9)).heap.size:=by simp
  have a9:Hid (K_ wr (wr.alloc (.cells #[] 9))):=ag _ _;have d3:=Kz (P.o.kept a9.o);go_upto_region 6 with (at_builtin;refine fI rfl (.tmp 24) (.tmp 25) 26 rfl wr.heap.size 9 ic _ 16 underlying26 f8 f9 g0 g1 rfl (.slice (some ⟨wr.heap.size,0,none⟩) 0 0) 0 (([]:List LK).map Value.string) rfl a8.o G H out rfl d3.o (by unfold maxLen;omega) (by omega) d2 ?_;intro v1 w2 W d4 g5;rw[KH] at W;have E:=Kz W;have b0:=aG a9.o (JP _) a8.o d4;obtain⟨X,b1,rfl⟩:=ax W;clear W d4 g5)
  clear c0 c3 g2 d2 a8 a9 d3;have d5:Hid (Strs w2 X out):=by
   obtain⟨j8,c9,d6,h9⟩:=aX E.o;simp only[KX,true_and] at d6;rw[<-d6.1] at h9;exact h9
  have d7:Hid (out.length<=b1/\(out≠[]->∃b o,X=some ⟨b,o,none⟩)):=by
   rcases E.o.2 with⟨e,h⟩|⟨g,j9,k0,e,_,_,h,_⟩
   ·simp only[KX] at e;exact⟨by omega,fun g6=>Lv (LB h) g6⟩
   ·simp only[KX] at e;exact⟨by omega,fun _=>⟨g,0,e.1⟩⟩
  have KO:=P;have B:=V.trans b0;have d8:Hid (w2.ownsRow w.heap.size 9 1 (.slice X out.length b1) out.length (out.map Value.string)):=jP E.o (A.o.trans V).size;have g7:=Kz (ai a6.o b0);have d9:=Kz (P.o.kept b0);clear E P KO a6;go_wp2
  go_loopw [9,10] (fun x9 b2 wr=>∃(k:Nat) (L:LM) (p:Nat) (more:List LK),k<=out.length/\b2= .int .i64 (k:Int)/\x9= .slice L more.length p/\more.length<=out.length+k*5/\Hid (more.length<=p/\(out≠[]->∃b o,L=some ⟨b,o,none⟩))/\Hid (Strs wr L more)/\Hid (wr.ownsRow w.heap.size 9 1 (.slice L more.length p) more.length (more.map Value.string))/\Hid (gy (aS (Q_ f) (Qj c)) out k [] 0 more)/\K_ w2 wr) (fun _ b2 _=>out.length-(intOf b2).toNat)
  case atStart=>exact⟨0,X,b1,out,JR _,rfl,rfl,by omega,d7,d5,d8,Kz (gy.start I.o.asc),K_.refl _⟩
  case round=>
   clear d7 d5 d8;obtain⟨k,L,p,more,hk,rfl,rfl,k2,Y,M,N,C,l⟩:=hrel;by_cases O:k<out.length;rotate_left
   ·have k3:¬((k:Int)<(out.length:Int)):=by omega
    have Z:Hid (gy (aS (Q_ f) (Qj c)) out out.length [] 0 more):=by have h:=C.o;rw[show k=out.length by omega] at h;exact h
    have k5:=Z.o.len I.o.asc;clear O;by_cases Q:more.length=out.length
    ·have g8:((more.length:Int) == (out.length:Int))=true:=by simp[Q]
     have a7:=Kz (I.o.done Z.o Q);have g9:=Kz (d9.o.kept l);clear Q;go_wp2
     go_ret
     exact⟨G,H,out,rfl,d0,g9.o,a7.o,ai g7.o l,A.o.trans (B.trans l)⟩
    ·have g8:((more.length:Int) == (out.length:Int))=false:=by simp;omega
     have h0:=Kz (I.o.next Z.o);have h1:=Y.o.1;have e0:Hid (i+1=0\/i+1<more.length):=by
      right
      have h2:out≠[]:=fun e=>Q (by
       have h3:more=[]:=by
        cases hm:more with
        | nil=>rfl
        | cons s r=>
         have:=(Z.o.iff s).1 (by rw[hm];simp);rw[e] at this;simp at this
       rw[h3,e])
      have k6:1<=out.length:=by
       cases ho:out with
       | nil=>exact Lv ho h2
       | cons=>simp
      rcases d1.o with h | h <;> omega
     clear Q;go_wp2
     go_roundw
     case rel=>exact⟨i+1,L,p,more,by omega,by go_num,rfl,h1,.inl (by have:=e0.o;omega),e0,M,N,h0,B.trans l⟩
     case measure=>simp[intOf];omega
   obtain⟨rb,ro,e1,h4,b3⟩:=(d9.o.kept l) k O;subst e1;obtain⟨s,F⟩:=aj (out.getD k ByteArray.empty);rw[<-F] at b3;have e2:out[k]=s:=by rw[F];simp[List.getD,O]
   have h5:=Kz e2;have k7:(k:Int)<(out.length:Int):=by omega
   have b4:Hid (∀u,K_ wr u->(u.cell? ⟨w.heap.size,0,none⟩=some (.slice a f.length m)/\u.cell? ⟨w.heap.size+1,0,none⟩=some (.slice t v x)/\u.cell? ⟨w.heap.size+1,1,none⟩=some (.slice d c.length y)/\u.cell? ⟨rb,ro+k,none⟩=some (.string s))):=fun u K=>⟨(T.o u (B.trans (l.trans K))).1,(T.o u (B.trans (l.trans K))).2.1,(T.o u (B.trans (l.trans K))).2.2.1,(K.cell h4).trans b3⟩
   clear F e2 b3;go_upto_region 9 with fail
   refine bf 7 b4.o fun wd KD a0=>?_
   refine au 0 a0 ?_;refine af 4 a0 ?_;refine af 5 a0 ?_;refine ak 6 (fun K R=>?_);go_simp
   go_at_call 65
   refine (nI wd a m f t v x d y c s b9 c2 a4 a5.o (hN.kept (A.o.trans (B.trans (l.trans KD)))) (hS.kept (A.o.trans (B.trans (l.trans KD))))).mono ?_;rintro e w4 ⟨⟨nb,no,nc,q,rfl,k8,e3,b6⟩,k4⟩;have S:=KD.trans k4;dsimp only;refine ae R (fun _=>b4.o _ S) ?_;clear R K;refine ah 7 (fun K R=>?_);go_simp
   refine ae R (fun h=>Lv rfl h) ?_;clear R K;refine aB ?_;have⟨h6,h7⟩:=aH b6 e3;have h8:=l.trans S;have k9:=b6.len a4 a5.o.env;have e4:=Kz (M.o.kept S);have e5:=Kz (ai N.o S);have i0:Hid (w.heap.size<=w4.heap.size):=(A.o.trans (B.trans (l.trans S))).size;have e6:=Kz (C.o.enter q);obtain⟨i1,i2,i3⟩:=Y.o.2 (fun e=>by rw[e] at O;simp at O);have i4:=Y.o.1;subst i3;clear b6 e3 b4 M C Y a0 N;go_wp2
   go_loopw [9,12] (fun x9 b7 wr=>∃(j:Nat) (mb mo p:Nat) (more:List LK),j<=q.length/\b7= .int .i64 (j:Int)/\x9= .slice (some ⟨mb,mo,none⟩) more.length p/\more.length<=out.length+k*5+j/\more.length<=p/\Hid (Strs wr (some ⟨mb,mo,none⟩) more)/\Hid (wr.ownsRow w.heap.size 9 1 (.slice (some ⟨mb,mo,none⟩) more.length p) more.length (more.map Value.string))/\Hid (gy (aS (Q_ f) (Qj c)) out k q j more)/\K_ w4 wr) (fun _ b7 _=>q.length-(intOf b7).toNat)
   case atStart=>exact⟨0,i1,i2,p,more,JR _,rfl,rfl,by omega,i4,e4,e5,e6,K_.refl _⟩
   case round=>
    clear e4 e6 e5;obtain⟨j,e7,e8,e9,a1,hj,rfl,rfl,l0,f0,M,N,C,Kj⟩:=hrel;by_cases a2:j<q.length;rotate_left
    ·have l1:¬((j:Int)<(q.length:Int)):=by omega
     have i5:Hid (gy (aS (Q_ f) (Qj c)) out (k+1) [] 0 a1):=C.o.leave O (by omega) (fun a3=>by rw[h5.o];exact h6.o.2 a3);clear a2;go_wp2
     go_roundw
     case rel=>exact⟨k+1,_,e9,a1,by omega,by go_num,rfl,by omega,Kz ⟨f0,fun _=>⟨e7,e8,rfl⟩⟩,M,N,i5,h8.trans Kj⟩
     case measure=>simp[intOf];omega
    obtain⟨l2,l3,e1,l4,f1⟩:=(h7.o.kept Kj) j a2;cases e1;obtain⟨a3,hy⟩:=aj (q.getD j ByteArray.empty);rw[<-hy] at f1;have f2:q[j]=a3:=by rw[hy];simp[List.getD,a2]
    have i6:=Kz f2;have l5:(j:Int)<(q.length:Int):=by omega
    clear hy f2;go_wp2_with fail
    refine (rq wr e7 e8 e9 a1 a3 (by omega) f0 C.o.asc M.o).mono ?_;rintro e w5 ⟨b5,o5,i7,r5,rfl,i8,b8,f3,f4,i9⟩;have j0:=Kz (f4 _ (JS i0.o Kj.size) N.o);clear f4;obtain⟨f5,f6⟩:=b8.asc C.o.asc;have l6:r5.length<=a1.length+1:=by
     rcases b8 with⟨_,rfl⟩|⟨_,l7,hq,rfl,_,_⟩
     ·omega
     ·simp;omega
    have j1:=Kz f3;have j2:Hid (gy (aS (Q_ f) (Qj c)) out k q (j+1) r5):=C.o.step a2 f5 (fun s=>by rw[i6.o];exact f6 s);clear f3 f5 f6 b8 f1;go_wp2
    go_roundw
    case rel=>exact⟨j+1,b5,o5,i7,r5,by omega,by go_num,rfl,by omega,i8,j1,j0,j2,Kj.trans i9⟩
    case measure=>simp[intOf];omega
def iX(Kq:List Qq)(Kk:List LK)(sl:List Qz)(ns:List LK):Prop:=ns.length<=60/\((gJ Kq Kk sl/\iK (aS (Q_ Kq) (Qj sl)) (sl.map (·.name)) ns)\/(¬gJ Kq Kk sl/\ns=[]))
variable {ns : List LK}
theorem iX.len{Kk:List LK}{a:List Qz}(h:iX Kq Kk a ns):ns.length<=60:=h.1
theorem iX.one{Kk:List LK}{e:List Qz}{f:List LK}(h:iX Kq Kk e ns)(k:iX Kq Kk e f):f=ns:=by
 rcases h.2 with⟨c,d⟩|⟨c,d⟩
 ·rcases k.2 with⟨a,b⟩|⟨a,b⟩
  ·exact d.unique b
  ·exact Lv c a
 ·rcases k.2 with⟨a,b⟩|⟨a,b⟩
  ·exact Lv a c
  ·rw[d,b]
theorem iK.len{E:LK->LK->Prop}{names:List LK}(h:iK E names ns):ns.length<=names.length:=List.Nodup.length_le_of_subset (iN h.1) (fun s d=>((h.2 s).1 d).1)
def EE(Kq:List Qq)(Kk:List LK)(sl:List Qz)(w':LP)(e:Ending):Prop:=
 ∃(da:LM) (c:Nat) (ns:List LK),e= .returned (.slice da ns.length c)/\Strs w' da ns/\iX Kq Kk sl ns
theorem xg(w:LP)(a:LM)(q:Nat)(f:List Qq)(r:LM)(v:Nat)(Kk:List LK)(d:LM)(A:Nat)(b:List Qz)(b0:f.length<=1048576)(g5:∀y∈f,y.Fits)(g6:Kk.length<=1048576)(g7:∀s∈Kk,s.size<=maxLen)(g8:b.length<=1048576)(g9:∀x∈b,x.texts.length<=1048576)
  (hN:bN w a f) (hS:bD w d b) (hR:Strs w r Kk):
  Calls prog 12 #[.agg #[.slice a f.length q],.agg #[.slice r Kk.length v,.slice d b.length A]] w fun e w'=>EE f Kk b w' e/\K_ w w':=by
 obtain⟨n,T⟩:=aj ((w.alloc (.cells #[.slice a f.length q] 25)).alloc (.cells #[.slice r Kk.length v,.slice d b.length A] 29));have kB:K_ w n:=by rw[T];exact (ag _ _).alloc _
 have h0:n.heap.size=w.heap.size+2:=by rw[T];simp
 have b1:n.cell? ⟨w.heap.size,0,none⟩=some (.slice a f.length q):=by rw[T,K_.cell (w:=w.alloc (.cells #[.slice a f.length q] 25)) (ag _ _) (by simp)];exact Xz w _ _ 0 _ rfl
 have s0:n.cell? ⟨w.heap.size+1,0,none⟩=some (.slice r Kk.length v):=by have:=Xz (w.alloc (.cells #[.slice a f.length q] 25)) #[.slice r Kk.length v,.slice d b.length A] 29 0 _ rfl;rw[KR] at this;rw[T];exact this
 have s1:n.cell? ⟨w.heap.size+1,1,none⟩=some (.slice d b.length A):=by have:=Xz (w.alloc (.cells #[.slice a f.length q] 25)) #[.slice r Kk.length v,.slice d b.length A] 29 1 _ rfl;rw[KR] at this;rw[T];exact this
 have z0:w.heap.size<n.heap.size:=by omega
 have z1:w.heap.size+1<n.heap.size:=by omega
 have O:Hid (∀w',K_ n w'->w'.cell? ⟨w.heap.size,0,none⟩=some (.slice a f.length q)/\w'.cell? ⟨w.heap.size+1,0,none⟩=some (.slice r Kk.length v)/\w'.cell? ⟨w.heap.size+1,1,none⟩=some (.slice d b.length A)/\w.heap.size<w'.heap.size/\w.heap.size+1<w'.heap.size):=fun w' K=>⟨(K.cell z0).trans b1,(K.cell z1).trans s0,(K.cell z1).trans s1,JQ z0 K.size,JQ z1 K.size⟩
 obtain⟨ic,h1,h3,h4,h5⟩:=aQ Tryz.bY;have B:=Kz kB;have b2:Hid (Strs (n.alloc (.cells #[] 9)) (some ⟨n.heap.size,0,none⟩) []):=fun i hi=>by cases hi
 have U:K_ n (n.alloc (.cells #[] 9)):=ag _ _;clear kB h0 b1 s0 s1;go_enter func12,ntmps12
 go_upto_region 1 with fail
 rw[<-T];clear T;go_upto_region 2 with fail
 obtain⟨WE,d7⟩:=aj (n.alloc (.cells #[] 9));rw[<-d7] at U b2⊢;clear d7;obtain⟨eb,d8⟩:=aj n.heap.size;rw[<-d8] at b2⊢;clear d8;obtain⟨b1,s0,s1,_,_⟩:=O.o _ U;go_wp2_with fail
 refine (nM _ a q f r v Kk d A b b0 g5 g6 g7 g8 g9 (hN.kept (B.o.trans U)) (hS.kept (B.o.trans U)) (hR.kept (B.o.trans U))).mono ?_;rintro e w1 ⟨⟨bv,rfl,hv⟩,k1⟩;have HV:=Kz hv;have l:=U.trans k1;have c6:=Kz (b2.o.kept k1);clear hv b1 s0 s1 z0 z1 U b2;cases bv
 ·go_wp2
  go_ret
  exact⟨⟨some ⟨eb,0,none⟩,0,[],rfl,c6.o,JR _,.inr ⟨fun h=>(by have:=HV.o.2 h;cases this),rfl⟩⟩,B.o.trans l⟩
 have b3:=Kz (HV.o.1 rfl);have b4:=Kz b3.o.good;have c7:=aZ b3.o.1;have j7:b.length<=60:=JS b4.o.len (gG b3.o.1);clear HV;go_wp2
 go_loopw [5,6] (fun x5 x6 wr=>∃(i F o c:Nat) (out:List LK),i<=b.length/\x6= .int .i64 (i:Int)/\x5= .slice (some ⟨F,o,none⟩) out.length c/\out.length<=c/\Hid (Strs wr (some ⟨F,o,none⟩) out)/\Hid (iK (aS (Q_ f) (Qj b)) ((b.take i).map (·.name)) out)/\K_ w1 wr) (fun _ x6 _=>b.length-(intOf x6).toNat)
 case atStart=>exact⟨0,eb,0,0,[],JR _,rfl,rfl,JP _,c6,Kz ⟨List.Pairwise.nil,fun s=>by simp⟩,K_.refl _⟩
 case round=>
  clear c6;obtain⟨i,F,o,c,out,hi,rfl,rfl,a2,a3,HL,G⟩:=hrel;obtain⟨b6,b7,b8,y0,y1⟩:=O.o _ (l.trans G);have j8:out.length<=i:=by have h:=HL.o.len;rw[Lm,Kt] at h;omega
  by_cases b9:i<b.length;rotate_left
  ·have j9:¬((i:Int)<(b.length:Int)):=by omega
   have h6:Hid (iK (aS (Q_ f) (Qj b)) (b.map (·.name)) out):=by have h:=HL.o;rw[show i=b.length by omega,KI] at h;exact h
   clear b9;go_wp2
   go_ret
   exact⟨⟨_,c,out,rfl,a3.o,by omega,.inl ⟨b3.o,h6.o⟩⟩,B.o.trans (l.trans G)⟩
  have k0:(i:Int)<(b.length:Int):=by omega
  obtain⟨V,W,xa,xc,e1,h7,d9,_,_⟩:=(hS.kept (B.o.trans (l.trans G))) i b9;subst e1;obtain⟨x,hx⟩:=aj (runN b i);have t0:=d9 0 _ rfl;rw[La] at t0;have e0:wr.cell? ⟨V,W+i*7,none⟩=some (.string x):=by rw[hx];exact t0
  clear t0 d9;have h8:Hid ((b.take (i+1)).map (·.name)= (b.take i).map (·.name)++ [x]):=by
   show _=_;rw[JX b9,LA,hx];simp[runN,List.getD,b9]
  have X:Hid (∀u,K_ wr u->(u.cell? ⟨w.heap.size,0,none⟩=some (.slice a f.length q)/\u.cell? ⟨w.heap.size+1,0,none⟩=some (.slice r Kk.length v)/\u.cell? ⟨w.heap.size+1,1,none⟩=some (.slice (some ⟨V,W,none⟩) b.length A)/\u.cell? ⟨V,W+i*7,none⟩=some (.string x))):=fun u K=>⟨(O.o u (l.trans (G.trans K))).1,(O.o u (l.trans (G.trans K))).2.1,(O.o u (l.trans (G.trans K))).2.2.1,(K.cell h7).trans e0⟩
  clear hx e0;go_upto_region 7 with fail
  clear b6 b7 b8;refine bf 17 X.o fun C D t=>?_
  refine au 0 t ?_;refine au 4 t ?_;refine au 9 t ?_;refine af 13 t ?_;refine af 14 t ?_;refine dx 8 15 (fun K k=>?_) (fun K k=>?_);rw[Lt (by rfl)];go_simp
  go_at_call 37
  refine (og C a q f r Kk.length v (some ⟨V,W,none⟩) A b x b0 (by omega) c7 b4.o (hN.kept (B.o.trans (l.trans (G.trans D)))) (hS.kept (B.o.trans (l.trans (G.trans D))))).mono ?_;rintro e H ⟨rv,e2,E,rfl,i0,c8,a4,a0,R⟩;have S:=D.trans R;have a5:=Kz a4;dsimp only;refine ae k (fun _=>X.o _ S) ?_;clear k K;refine ah 15 (fun K k=>?_);go_simp
  have P:K_ H (H.alloc (.cells #[.string x] 9)):=ag _ _;have I:(H.alloc (.cells #[.string x] 9)).cell? ⟨H.heap.size,0,none⟩=some (.string x):=Xz H #[.string x] 9 0 _ rfl;have M:H.heap.size<(H.alloc (.cells #[.string x] 9)).heap.size:=by simp
  have J:=S.trans P;refine k.out _ _ (fun _=>X.o _ J) ?_;clear k K;obtain⟨a1,a6⟩:=aj H.heap.size;rw[<-a6] at I M⊢;generalize d0:H.alloc (.cells #[.string x] 9)=N at I M P J⊢;clear d0 a6;try simp only[upP]
  have c0:=Kz (ai (jP a0 D.size) P);have c1:Hid (K_ wr N):=J;have d1:Hid (Strs N (some ⟨a1,0,none⟩) [x]):=fun c2 hq=>by
   obtain rfl:c2=0:=by simpa using hq
   exact⟨a1,0,rfl,M,I⟩
  clear a0 c8 a4 R S P J I M t D;rotate_left;go_simp
  have P:K_ C (C.alloc (.cells #[.string x] 9)):=ag _ _;have I:(C.alloc (.cells #[.string x] 9)).cell? ⟨C.heap.size,0,none⟩=some (.string x):=Xz C #[.string x] 9 0 _ rfl;have M:C.heap.size<(C.alloc (.cells #[.string x] 9)).heap.size:=by simp
  have J:=D.trans P;refine k.out _ _ (fun _=>X.o _ J) ?_;clear k K;obtain⟨a1,a6⟩:=aj C.heap.size;rw[<-a6] at I M⊢;generalize d0:C.alloc (.cells #[.string x] 9)=wq at I M P J⊢;clear d0 a6;try simp only[upP]
  refine ak 8 (fun K k=>?_);go_simp
  go_at_call 37
  refine (og wq a q f r Kk.length v (some ⟨V,W,none⟩) A b x b0 (by omega) c7 b4.o (hN.kept (B.o.trans (l.trans (G.trans J)))) (hS.kept (B.o.trans (l.trans (G.trans J))))).mono ?_;rintro e H ⟨rv,e2,E,rfl,i0,c8,a4,a0,R⟩;have S:=J.trans R;have a5:=Kz a4;dsimp only;refine ae k (fun _=>X.o _ S) ?_;clear k K;obtain⟨N,e3⟩:=aj H;rw[<-e3] at a0 R S⊢;have c0:=Kz (jP a0 (Nat.le_trans D.size P.size));have c1:Hid (K_ wr N):=S;have d1:Hid (Strs N (some ⟨a1,0,none⟩) [x]):=fun c2 hq=>by
   obtain rfl:c2=0:=by simpa using hq
   exact⟨a1,0,rfl,JQ M R.size,(R.cell M).trans I⟩
  clear a0 c8 a4 e3 R S P J I M t D
  all_goals
   have k2:E.length<=60:=by
    have h:jX (aS (Q_ f) (Qj b)) x E:=⟨a5.o.1,fun s Y=>(a5.o.2 s).1 Y,fun s Y=>(a5.o.2 s).2 ⟨0,aR.one Y⟩⟩;have h2:=h.len (names:=b.map (·.name)) vO;rw[Lm] at h2;omega
   have e4:wr.heap.size<=N.heap.size:=c1.o.size;obtain⟨_,_,i1,i2,e5⟩:=d1.o 0 (by simp);cases i1;refine ah 16 (fun K k=>?_);refine step_append_lies _ rfl (.tmp 30) (.tmp 37) 26 rfl wr.heap.size 9 ic _ 1 16 underlying26 h1 h3 h4 h5 rfl (by decide) (.slice rv E.length e2) E.length (E.map Value.string) rfl c0.o ⟨a1,0,none⟩ 1 1 [.string x] rfl rfl (fun j u Q=>?_) (fun u Q=>?_) (by decide) (by unfold maxLen;omega) (by omega) e4 N.heap.size rfl ?_
   ·match j,Q with
    | 0,Q=>simp at Q;subst Q;rw[KZ];exact e5
    | j+1,Q=>simp at Q
   ·simp at Q;subst Q;rfl
   intro gb gc w7 e6 e7 i3 i4;have c3:Hid (K_ wr w7):=aG c1.o (JP _) c0.o e7;have e8:=Kz e6;refine ae k (fun _=>X.o _ c3.o) ?_;clear k K e6 e7 i3 i4;refine ah 17 (fun K k=>?_);go_simp
   refine ae k (fun h=>Lv rfl h) ?_;clear k K;refine aB ?_;have d2:Strs w7 (some ⟨gb,0,none⟩) (E++ [x]):=by
    have ho:w7.ownsRow wr.heap.size 9 1 (.slice (some ⟨gb,0,none⟩) (E.length+1) gc) (E.length+1) ((E++ [x]).map Value.string):=by rw[LA];exact e8.o
    obtain⟨k3,c9,e9,h9⟩:=aX ho;simp only[KX] at e9;rw[<-e9.1] at h9;exact h9
   obtain⟨p,c4⟩:=aj (E++ [x]);have f0:E.length+1=p.length:=by rw[c4];simp
   rw[<-c4] at d2;rw[f0];have⟨f1,i5⟩:=aH c4 d2;have f2:=Kz (a3.o.kept c3.o);have f3:Hid (gT (aS (Q_ f) (Qj b)) ((b.take i).map (·.name)) x p 0 out):=gT.enter HL.o x p;have k5:p.length<=61:=by omega
   have Z:=G.trans c3.o;clear d2 c4 f0 e8 i2 e5 e4 d1 c0 c1;go_wp2
   go_loopw [5,8] (fun x5 x8 wr=>∃(m F o c:Nat) (out:List LK),m<=p.length/\x8= .int .i64 (m:Int)/\x5= .slice (some ⟨F,o,none⟩) out.length c/\out.length<=c/\out.length<=i+m/\Hid (Strs wr (some ⟨F,o,none⟩) out)/\Hid (gT (aS (Q_ f) (Qj b)) ((b.take i).map (·.name)) x p m out)/\K_ w7 wr) (fun _ x8 _=>p.length-(intOf x8).toNat)
   case atStart=>exact⟨0,F,o,c,out,JR _,rfl,rfl,a2,by omega,f2,f3,K_.refl _⟩
   case round=>
    clear f2 f3;obtain⟨m,F,o,c,out,hk,rfl,rfl,a2,k6,a3,a7,L⟩:=hrel;by_cases a8:m<p.length;rotate_left
    ·have k7:¬((m:Int)<(p.length:Int)):=by omega
     have i6:Hid (iK (aS (Q_ f) (Qj b)) ((b.take (i+1)).map (·.name)) out):=by
      rw[h8.o];have h:=a7.o;rw[f1.o] at h;exact h.leave (by rw[<-f1.o];omega) a5.o
     clear a8;go_wp2
     go_roundw
     case rel=>exact⟨i+1,F,o,c,out,by omega,by go_num,rfl,a2,a3,i6,Z.trans L⟩
     case measure=>simp[intOf];omega
    obtain⟨qb,qo,e1,i7,d3⟩:=(i5.o.kept L) m a8;cases e1;obtain⟨y,hy⟩:=aj (p.getD m ByteArray.empty);rw[<-hy,KH] at d3;have f4:p[m]=y:=by rw[hy];simp[List.getD,a8]
    have f5:=Kz f4;have k8:(m:Int)<(p.length:Int):=by omega
    have d4:Hid (∀u,K_ wr u->(u.cell? ⟨w.heap.size,0,none⟩=some (.slice a f.length q)/\u.cell? ⟨w.heap.size+1,0,none⟩=some (.slice r Kk.length v)/\u.cell? ⟨w.heap.size+1,1,none⟩=some (.slice (some ⟨V,W,none⟩) b.length A)/\u.cell? ⟨gb,m,none⟩=some (.string y))):=fun u K=>⟨(O.o u (l.trans (Z.trans (L.trans K)))).1,(O.o u (l.trans (Z.trans (L.trans K)))).2.1,(O.o u (l.trans (Z.trans (L.trans K)))).2.2.1,(K.cell i7).trans d3⟩
    clear hy f4 d3;go_upto_region 11 with fail
    refine bf 11 d4.o fun C D t=>?_
    refine au 0 t ?_;refine af 4 t ?_;refine af 5 t ?_;refine au 7 t ?_;refine ak 6 (fun K k=>?_);go_simp
    go_at_call 37
    refine (og C a q f r Kk.length v (some ⟨V,W,none⟩) A b y b0 (by omega) c7 b4.o (hN.kept (B.o.trans (l.trans (Z.trans (L.trans D))))) (hS.kept (B.o.trans (l.trans (Z.trans (L.trans D)))))).mono ?_;rintro e N ⟨i8,i9,d5,rfl,_,f6,a9,_,k4⟩;have K4:=D.trans k4;have⟨f7,j0⟩:=aH a9 f6;have k9:d5.length<=60:=by
     have h:jX (aS (Q_ f) (Qj b)) y d5:=⟨a9.1,fun s Y=>(a9.2 s).1 Y,fun s Y=>(a9.2 s).2 ⟨0,aR.one Y⟩⟩;have h2:=h.len (names:=b.map (·.name)) vO;rw[Lm] at h2;omega
    clear f6 a9;dsimp only;refine ae k (fun _=>d4.o _ K4) ?_;clear k K;refine ak 11 (fun K k=>?_);go_simp
    go_at_call 38
    refine (oP N i8 i9 d5 y (by omega) j0.o).mono ?_;rintro e w5 ⟨⟨bs,rfl,f8⟩,f9⟩;rw[f9];have c5:=Kz f8;clear f9 f8;dsimp only;refine ae k (fun h=>absurd rfl h) ?_;clear k K;refine aB ?_;have g0:=Kz (a3.o.kept K4);obtain⟨b6,b7,b8,y0,y1⟩:=O.o _ (l.trans (Z.trans (L.trans K4)));have g1:=(X.o _ (c3.o.trans (L.trans K4))).2.2.2;clear d4 t;cases bs;rotate_left
    ·have j1:Hid (OnC (aS (Q_ f) (Qj b)) y):=(f7.o.2 y).1 (c5.o.1 rfl);clear c5;go_wp2_with fail
     refine (Ey N F o c out x (by omega) a2 a7.o.asc g0.o).mono ?_;rintro e w5 ⟨b5,o5,j2,r5,rfl,I,d6,g2,j3⟩;obtain⟨g3,g4⟩:=d6.asc a7.o.asc;have l0:r5.length<=out.length+1:=by
      rcases d6 with⟨_,rfl⟩|⟨_,c2,hq,rfl,_,_⟩
      ·omega
      ·simp;omega
     have j4:=Kz g2;have j5:Hid (gT (aS (Q_ f) (Qj b)) ((b.take i).map (·.name)) x p (m+1) r5):=a7.o.put a8 (by rw[f5.o];exact j1.o) g3 g4;clear g2 g3 g4 d6 b6 b7 b8 g1;go_wp2
     go_roundw
     case rel=>exact⟨m+1,b5,o5,j2,r5,by omega,by go_num,rfl,I,by omega,j4,j5,L.trans (K4.trans j3)⟩
     case measure=>simp[intOf];omega
    ·have j6:Hid (gT (aS (Q_ f) (Qj b)) ((b.take i).map (·.name)) x p (m+1) out):=a7.o.skip a8 (by rw[f5.o];exact fun h=>by have h2:=c5.o.2 ((f7.o.2 y).2 h);cases h2);clear c5 b6 b7 b8 g1;go_wp2
     go_roundw
     case rel=>exact⟨m+1,F,o,c,out,by omega,by go_num,rfl,a2,by omega,g0,j6,L.trans K4⟩
     case measure=>simp[intOf];omega
section
variable {E : LK -> LK -> Prop}
theorem lS.all{g:LK}{n:Nat}{a:LK}{l:List LK}(h:lS E g n a l):aR E n a g->l.length=n/\1<=n/\(∀i,i<n->aR E (n-i) (l.getD i ByteArray.empty) g)/\(∀i,i+1<n->E (l.getD i ByteArray.empty) (l.getD (i+1) ByteArray.empty))/\l.getD 0 ByteArray.empty=a:=by
 induction h with
 | stop a=>
  intro b;exact⟨rfl,JP _,fun i c=>(by obtain rfl:i=0:=(by omega);exact b),fun i c=>by omega,rfl⟩
 | @step n a x l h r ih=>
  intro b;obtain⟨d,m,f,j,k⟩:=ih h.1.2.1;refine⟨by rw[KY,d],by omega,fun i c=>?_,fun i c=>?_,rfl⟩
  ·cases i with
   | zero=>exact b
   | succ i=>
    have:=f i (by omega);have e:n+1-(i+1)=n-i:=by omega
    rw[e];exact this
  ·cases i with
   | zero=>
    have e:(a :: l).getD 1 ByteArray.empty=l.getD 0 ByteArray.empty:=rfl;rw[KH,e,k];exact h.1.1
   | succ i=>exact j i (by omega)
structure Hl (E:LK->LK->Prop) (l:List LK):Prop where
 next:∀i,i<l.length->E (l.getD i ByteArray.empty) (l.getD ((i+1) % l.length) ByteArray.empty)
 diff:∀i j,j<i->i<l.length->l.getD j ByteArray.empty≠l.getD i ByteArray.empty
 least:∀i,i<l.length->¬aP (l.getD i ByteArray.empty) (l.getD 0 ByteArray.empty)
 on:∀i,i<l.length->OnC E (l.getD i ByteArray.empty)
theorem Ai{l:List LK}(t:qg E l):Hl E l/\(l=[]->∀x,¬OnC E x):=by
 rcases t with⟨h,rfl⟩|⟨m,I,h,v,n,w⟩
 ·exact⟨⟨fun i a=>by simp at a,fun i j _ a=>by simp at a,fun i a=>by simp at a,fun i a=>by simp at a⟩,fun _ x y=>by obtain⟨A,B⟩:=y;exact h x (A+1) (by omega) B⟩
 ·obtain⟨d,_,p,q,f⟩:=w.all n.1;have r:∀k j,j+k<m->aR E k (l.getD j ByteArray.empty) (l.getD (j+k) ByteArray.empty):=fun k=>by
   induction k with
   | zero=>intro j _;exact .here _
   | succ k ih=>
    intro j C;have:=(ih j (by omega)).trans (aR.one (q (j+k) (by omega)));exact this
  have round:∀i,i<m->aR E m (l.getD i ByteArray.empty) (l.getD i ByteArray.empty):=fun i a=>by
   have c:=r i 0 (by omega);rw[KH,f] at c;have:=(p i a).trans c;have e:m-i+i=m:=by omega
   rw[e] at this;exact this
  refine⟨⟨fun i a=>?_,fun i j C a e=>?_,fun i a=>?_,fun i a=>⟨m-1, ?_⟩⟩,fun e=>?_⟩
  ·by_cases s:i+1<m
   ·rw[d,Nat.mod_eq_of_lt s];exact q i s
   ·have D:i+1=m:=by omega
    rw[d,D,Nat.mod_self,f];have:=p i (by omega);have e:m-i=1:=by omega
    rw[e] at this;obtain⟨b,F,G⟩:=this.first
    rw[<-G.zero];exact F
  ·have c:=r (i-j) j (by omega);have H:j+ (i-j)=i:=by omega
   rw[H,<-e] at c;have:=v _ (i-j) (by omega) c;omega
  ·rw[f];exact n.2 _ (round i (by omega))
  ·have:=round i (by omega);have e:m-1+1=m:=by omega
   rw[e];exact this
  ·rw[e] at d;simp at d;omega
end
structure Ii (L:List Qq) (Kk:List LK) (sl:List Qz) (c:List LK):Prop where
 wait:∀i,i<c.length->∀ns,nC L Kk sl (c.getD i ByteArray.empty) ns->c.getD ((i+1) % c.length) ByteArray.empty∈ns
 diff:∀i,i<c.length->c.getD i ByteArray.empty∉c.take i
 least:∀i,i<c.length->¬aP (c.getD i ByteArray.empty) (c.getD 0 ByteArray.empty)
 run:∀i,i<c.length->∃r∈sl,r.name=c.getD i ByteArray.empty
section
variable {L : List Qq} {Kk : List LK} {sl : List Qz} {c ss : List LK}
theorem AV(h:gp L Kk sl c):Ii L Kk sl c:=by
 rcases h.2 with⟨e,f⟩|⟨e,rfl⟩
 ·obtain⟨d,_⟩:=Ai f;refine⟨fun i a p b=>?_,fun i a k=>?_,d.least,fun i a=>?_⟩
  ·rcases b with⟨_,b⟩|⟨b,_⟩
   ·rw[b.2];exact d.next i a
   ·exact Lv e b
  ·obtain⟨j,l,m⟩:=Kb k;rw[Kt] at l;refine d.diff i j (by omega) a ?_;rw[<-m];simp[List.getD,(by omega:j<c.length)]
  ·obtain⟨r,A,n,_⟩:=d.next i a;exact⟨r,bF n⟩
 ·exact⟨fun i a=>by simp at a,fun i a=>by simp at a,fun i a=>by simp at a,fun i a=>by simp at a⟩
theorem Cx(h:gp L Kk sl c)(k:iX L Kk sl ss):(∀i,i<c.length->c.getD i ByteArray.empty∈ss)/\(c=[]↔ss=[]):=by
 have p:=(AV h).run;rcases h.2 with⟨b,q⟩ | ⟨b,rfl⟩ <;> rcases k.2 with⟨d,f⟩ | ⟨d,rfl⟩
 ·obtain⟨r,t⟩:=Ai q;have j:∀i,i<c.length->c.getD i ByteArray.empty∈ss:=fun i a=>by
   rw[f.2];obtain⟨v,l⟩:=p i a;exact⟨Ku.2 ⟨v,l.1,l.2⟩,_,0,.here _,r.on i a⟩
  refine⟨j,fun e=>?_,fun e=>?_⟩
  ·cases w:ss with
   | nil=>rfl
   | cons s m=>
    obtain⟨_,x,n,_,y⟩:=(f.2 s).1 (by rw[w];simp);exact Lv y (t e x)
  ·cases A:c with
   | nil=>rfl
   | cons x m=>
    have:=j 0 (by rw[A];simp);rw[e] at this;cases this
 ·exact Lv b d
 ·exact Lv d b
 ·exact⟨fun i a=>by simp at a,Iff.rfl⟩
end
section
variable {G : bX} {Kq : List Qq} {wz w w' : LP} {bb : Nat} {a : LM} {cap : Nat} {rd : LM} {rn rc : Nat} {mb mx : Nat} {ts : List Zx} {d : LM} {dc : Nat} {f : LK -> LQ} {ws : LK -> List Nat}
theorem Gh{l a:List Qz}(c:l.length=a.length)(h:∀j,j<l.length->l.getD j Qz.zero=a.getD j Qz.zero):l=a:=by
 refine List.ext_getElem c fun i b f=>?_
 have:=h i b;simpa[List.getD,b,f] using this
theorem vR(K:BM G Kq wz w bb a cap rd rn rc mb mx ts d dc f ws)(b4:ts.length<=1048576)(a0:∀t∈ts,t.r.texts.length<=1048576)(L:LM)(gc:Nat)(c:List Qz)(_hsl:c.length<=1048576)(a1:∀r∈c,r.texts.length<=1048576)(hR:bD w L c):
  Calls prog 61 #[.slice d ts.length dc,.slice L c.length gc,.func (.func 62) #[] #[]] w fun e w'=>Says e (Qk ts=c)/\K_ w w':=by
 have M:=Kz K;clear K;have N:(Qk ts).length=ts.length:=by simp[Qk]
 have y:=Kz N;clear N;go_enter func61,ntmps61
 by_cases l:ts.length=c.length
 ·have a2:((ts.length:Int) != (c.length:Int))=false:=by simp[l]
  have q:=Kz l;clear l;go_wp2
  go_loopw [17] (fun A wr=>∃k:Nat,k<=ts.length/\A= .int .i64 k/\Hid (∀j,j<k->(Qk ts).getD j Qz.zero=c.getD j Qz.zero)/\K_ w wr) (fun A _=>ts.length-(intOf A).toNat)
  case atStart=>exact⟨0,JR _,rfl,Kz fun j B=>aT B,K_.refl _⟩
  case round=>
   obtain⟨k,hk,rfl,O,m⟩:=hrel;by_cases s:k<ts.length
   ·obtain⟨g,a3,a4⟩:=(M.o.kept m).item s;obtain⟨b,o,xa,xc,a5,hb,h,C,_⟩:=hR.kept m k (by have:=q.o;omega);subst a3;subst a5;have i0:(k:Int)<(ts.length:Int):=by omega
    have i1:(k:Int)<(c.length:Int):=by have:=q.o;omega
    have i:=(M.o.kept m).fO ts[k] (J_ s);have D:(Qk ts).getD k Qz.zero= (ts[k]).r:=by simp[Qk,List.getD,s]
    have P:=a1 (c.getD k Qz.zero) (Ac (by have:=q.o;omega));have Q:=a0 ts[k] (J_ s);obtain⟨a6,E⟩:=aj (c.getD k Qz.zero);obtain⟨t,R⟩:=aj (ts[k]);rw[<-E] at h P C;rw[<-R] at i a4 D Q;have⟨S,T⟩:=aH E D;obtain⟨n,v,F⟩:=ax i.txt;obtain⟨a7,b5,x,H⟩:=aX i.txt;have U:a7=n:=by rw[F] at x;simp only[KX] at x;exact x.1.symm
    rw[U] at H;have V:wr.rangeAt t.tb 0 (t.r.cells n v):=fun j a8 W=>i.rng j a8 (by
     have e0:t.cells=t.r.cells n v++ [.int .i64 t.cost,.slice t.sa t.steps.length t.sc,.int .i64 (t.op:Int),t.qv,.string t.bl]:=by
      unfold Zx.cells Qz.cells;rw[F]
      rfl
     rw[e0];have a9:j<(t.r.cells n v).length:=(JW.1 W).1;rw[Lh a9];exact W)
    have b0:=i.row.lt;have⟨b1,b2,b3⟩:=dK V H C;clear E R D F x U i H C V;have X:=h 0 _ rfl;have c1:=h 1 _ rfl;have c2:=h 2 _ rfl;have c3:=h 3 _ rfl;have c4:=h 4 _ rfl;have c5:=h 5 _ rfl;have c6:=h 6 _ rfl;simp only[La] at X;clear h;go_wp2_with fail
    refine (yE _ t.tb t.r a6 n xa v xc (by simp <;> omega) (K_.range (ag wr _) b0 b1.o) Q P (b2.o.kept (ag wr _)) (b3.o.kept (ag wr _))).mono ?_;rintro e w1 ⟨I,Y⟩;have Z:K_ w w1:=m.trans (K_.trans (ag wr _) Y);clear Y X c1 c2 c3 c4 c5 c6;rcases I.cases with⟨rfl,p⟩ | ⟨rfl,p⟩
    ·have J:=Kz p;clear p I;go_wp2
     go_roundw
     case rel=>
      refine⟨k+1,by omega,by go_num,Kz fun j B=>?_,Z⟩;by_cases e:j=k
      ·rw[e,T.o,<-S.o];exact J.o
      ·exact O.o j (by omega)
     case measure=>simp[intOf];omega
    ·have J:=Kz p;clear p I;go_wp2
     go_ret
     refine⟨Says.no fun e=>J.o ?_,Z⟩;rw[<-T.o,S.o,e]
   ·go_wp2
    go_ret
    exact⟨Says.yes (Gh (by rw[y.o];exact q.o) fun j B=>O.o j (by have:=y.o;omega)),m⟩
 ·have a2:((ts.length:Int) != (c.length:Int))=true:=by simp;omega
  have HN:=Kz l;clear l;go_wp2
  go_ret
  exact⟨Says.no fun e=>HN.o (by rw[<-y.o,e]),K_.refl _⟩
end
theorem EQ{e:Ending}{P:Prop}(h:Says e P):∃b:Bool,e= .returned (.bool b)/\(b=true↔P):=by
 rcases h.cases with⟨rfl,a⟩|⟨rfl,a⟩
 ·exact⟨true,rfl,by simp[a]⟩
 ·exact⟨false,rfl,by simp[a]⟩
theorem fT.kept{w a:LP}(h:fT w)(k:K_ w a):fT a:=fun W give b c l d e f i j=>h W give b c l (k.trans d) e f i j
def ResB(Kq:List Qq)(Kk:List LK)(sl:List Qz)(a:LM)(cap:Nat)(rd:LM)(rc:Nat)(w w':LP)(e:Ending):Prop:=
 K_ w w'/\((¬(bn Kq 0/\eO Kk/\cO sl)/\e= .returned (.tuple #[.pointer none,.bool false]))\/
  (bn Kq 0/\eO Kk/\cO sl/\∃(wz:LP) (bb mb mx:Nat) (ts:List Zx) (d:LM) (dc:Nat) (f:LK->LQ) (ws:LK->List Nat) (b:Bool),e= .returned (.tuple #[.pointer (some ⟨bb,0,none⟩),.bool b])/\K_ w wz/\BM (bX.no wz) Kq wz w' bb a cap rd Kk.length rc mb mx ts d dc f ws/\BS Kq ts ws/\mx<=9000/\(b=true↔Qk ts=sl)/\
   (∃k,bO (Behind (W:=Q_ Kq) dz (Qj sl)) (doX (Q_ Kq)) (Qj (bV Kq Kk)) (Qj (Qk ts)) k)/\AtEnd (Behind (W:=Q_ Kq) dz (Qj sl)) (Qj (Qk ts))))
theorem pJ(w:LP)(a:LM)(k:Nat)(b:List Qq)(p:LM)(q:Nat)(Kk:List LK)(d:LM)(f:Nat)(c:List Qz)(hl:b.length<=1048576)(hf:∀s∈b,s.Fits)(c4:Kk.length<=maxLen)(c5:Kk.length<=q)(c6:∀s∈Kk,s.size<=maxLen)(T:c.length<=1048576)(c7:∀r∈c,r.texts.length<=1048576)(hS:bN w a b)(hR:Strs w p Kk)(U:bD w d c)(c8:fT w):
  Calls prog 26 #[.agg #[.slice a b.length k],.agg #[.slice p Kk.length q,.slice d c.length f]] w fun e w'=>ResB b Kk c a k p q w w' e:=by
 go_enter func26,ntmps26
 go_wp2_with fail
 have y:K_ w ((w.alloc (.cells #[.slice a b.length k] 25)).alloc (.cells #[.slice p Kk.length q,.slice d c.length f] 29)):=(ag _ _).alloc _;refine (CX _ a k b p q Kk hl hf c4 c5 c6 (hS.kept y) (hR.kept y)).mono ?_;rintro e w1 ⟨F,c9⟩;have V:=y.trans F;have d0:=F.size;simp only[KR] at d0;have q1:=Ik (w:=w.alloc (.cells #[.slice a b.length k] 25)) F;simp only[KR] at q1;obtain⟨p0,p1⟩:=q1;have d1:w.heap.size+1<w1.heap.size:=by omega
 rcases c9 with⟨a5,rfl⟩|⟨hW,a6,G,t,H,A,d3,dc,rfl,I,X,a7,a8⟩
 ·have Y:=Kz a5;clear a5;go_wp2
  go_ret2
  exact⟨V.alloc _,.inl ⟨fun v=>Y.o ⟨v.1,v.2.1⟩,rfl⟩⟩
 have⟨J,d4,Z,d5,d6⟩:=jb hW a6 X a7 a8;have B:=y.trans I;have q3:=Ik (w:=w.alloc (.cells #[.slice a b.length k] 25)) I;simp only[KR] at q3;have sz:=q3.2;have d7:w.heap.size+1<G.heap.size:=by have:=I.size;simp only[KR] at this;omega
 clear q3;have f6:=X.row.lt;clear hW a6 X a7 a8 y F I;go_wp2_with fail
 refine (Bb _ d f c T (U.kept (V.alloc _))).mono ?_;rintro e w2 ⟨x,C⟩;have K2:K_ w w2:=(V.alloc _).trans C;have a9:K_ w1 w2:=K_.trans (ag _ _) C;have b0:=C.size;simp only[KR] at b0;have q2:=Ik (w:=w1) C;obtain⟨g0,g1⟩:=q2;rcases x.cases with⟨rfl,D⟩|⟨rfl,D⟩;rotate_left
 ·have Y:=Kz D;clear D x;go_wp2
  go_ret2
  exact⟨K2,.inl ⟨fun v=>Y.o v.2.2,rfl⟩⟩
 have f7:=(a9.cell (o:=1) d1).trans p1;have b1:=gG J.o;have f8:rV b A<=1380:=by
  have:=xJ (b.map (·.name)) (Qj (Qk A));rw[Lm] at this;unfold rV;omega
 have HA:=Kz D;have d8:=Kz (Z.o.kept a9);have b2:Hid (uI w2 t H A (fun _=>.slice none 0 0) w1.heap.size):=⟨by omega,Z.o.far (JP _)⟩;clear D x Z p0 p1 C;obtain⟨h,L⟩:=aj w1.heap.size;rw[<-L] at g0 g1 b0 b2;have f9:h<w2.heap.size:=by omega
 go_wp2_with fail
 rw[<-L];have g2:=Kz L;clear L;go_loopg [28] (rV b A) (fun gg g3 wr=>∃(mx:Nat) (l:List Zx) (d2:LM) (b4:Nat) (f2:LK->LQ) (a0:LK->List Nat),wr.cell? ⟨h,0,none⟩=some (.slice d c.length f)/\wr.cell? ⟨h,1,none⟩=some (.func (.func 58) #[] #[])/\Hid (uI wr t H l f2 h)/\Hid (BM (bX.no G) b G wr t a k p Kk.length q H mx l d2 b4 f2 a0)/\Hid (BS b l a0)/\mx+6*rV b l<=9000/\gg=rV b l/\Hid (∃M,bO (Behind (W:=Q_ b) dz (Qj c)) (doX (Q_ b)) (Qj (bV b Kk)) (Qj (Qk l)) M))
 case atStart=>exact⟨0,A,d3,dc,_,_,g0,g1,b2,d8,d5,by omega,rfl,Kz ⟨0,by rw[d6.o];exact .here _⟩⟩
 case round=>
  obtain⟨mx,l,d2,b4,f2,a0,v0,v1,d9,e0,e1,e2,rfl,e3⟩:=hrel;obtain⟨wO,rfl⟩:=aj wr;go_wp2_with fail
  refine (zt e0.o e1.o (aZ J.o) hf b1 (vw J.o) (hS.kept B) (c8.kept B) d f c T HA.o (U.kept B) (Qj (bV b Kk)) e3.o e2 (fun M=>M=h) (fun M hk=>by rw[hk];exact d9.o)).mono ?_;rintro e i ⟨b5,E,N,O,f3,b6,b3,rfl,m,b7,e4,b8,b9,a1,P⟩;obtain⟨a2,P⟩:=P h rfl;have u0:=(Ke (w:=wO) (a:=⟨h,0,none⟩) a2).trans v0;have u1:=(Ke (w:=wO) (a:=⟨h,1,none⟩) a2).trans v1;have K3:K_ w i:=B.trans m.kw;have⟨Q,R,c0,e5,e6⟩:=jb m b7 b8 b9 P;have e7:=m.c3;have e8:=m.row.lt;have g4:=m.kw.size;have s3:=(m.kw.cell (o:=1) d7).trans sz;have e9:w.heap.size+1<i.heap.size:=by omega
  clear m b7 b8 b9 P a2;cases b3;rotate_left
  ·have f0:=a1 rfl;clear a1;go_wp2
   go_roundg (rV b E)
   case measure=>exact f0
   case rel=>exact⟨b5,E,N,O,f3,b6,u0,u1,e6,Q,R,e4,rfl,c0⟩
  ·clear a1;have g5:=Q.o.len b1;go_upto_region 6 with fail
   have c1:∀w',K_ i w'->(fun w'=>w'.cell? ⟨t,3,none⟩=some (.slice N E.length O)/\w'.cell? ⟨w.heap.size+1,1,none⟩=some (.slice d c.length f)) w':=fun w' kk=>⟨(kk.cell e8).trans e7,(kk.cell e9).trans s3⟩
   have a3:=Kz c1;clear c1;refine Qx.region (by kernel_rfl) (fun w'=>w'.cell? ⟨t,3,none⟩=some (.slice N E.length O)/\w'.cell? ⟨w.heap.size+1,1,none⟩=some (.slice d c.length f)) 10 (a3.o _ (aL i)) (fun a4=>?_);have n:K_ i i.drew:=aL i;generalize f1:i.drew=wd at a4 n⊢;clear f1;refine au 0 a4 ?_;refine au 4 a4 ?_;refine ak 8 (fun K j=>?_);go_simp
   go_at_call 61
   refine (vR (Q.o.kept n) (by omega) (fun c2 ht=>by have g6:=(R.o.good.good c2.r (Le ht)).tl;have g7:=(R.o.good.good c2.r (Le ht)).hi;omega) d f c T c7 ((U.kept K3).kept n)).mono ?_;rintro e w4 ⟨x,S⟩;obtain⟨f4,rfl,c3⟩:=EQ x;have f5:=Kz c3;clear x c3;refine ae j (fun _=>a3.o _ (n.trans S)) ?_;clear j K;refine ah 9 (fun K j=>?_);go_simp
   refine ae j (fun _=>a3.o _ (n.trans S)) ?_;clear j K;refine ah 10 (fun K j=>?_);go_simp
   refine ae j (fun v=>Lv rfl v) ?_;clear j K;refine aB ?_;go_wp2
   go_ret2
   refine⟨(K3.trans n).trans S,.inr ⟨J.o,d4.o,HA.o,G,t,H,b5,E,N,O,f3,b6,f4,rfl,B,Q.o.kept (n.trans S),R.o,by omega,f5.o,c0.o,e5.o (by trivial)⟩⟩
theorem rO{a:List Qq}{Kk:List LK}{b:List Qz}{c:List Zx}{n:LK->List Nat}(i:bn a 0)(p:eO Kk)(f:BS a c n)(q:∃k,bO (Behind (W:=Q_ a) dz (Qj b)) (doX (Q_ a)) (Qj (bV a Kk)) (Qj (Qk c)) k)(h:AtEnd (Behind (W:=Q_ a) dz (Qj b)) (Qj (Qk c))):Qk c=b↔gJ a Kk b:=by
 have j:=(gX (aZ i) Kk).wf;obtain⟨k,l⟩:=q;constructor
 ·intro e;refine⟨i,p,by rw[<-e];exact f.good.len,k,b,by rw[<-e];exact f.good, ?_, ?_,rfl⟩
  ·have d:=uy (W:=Q_ a) (τ :=Qj (Qk c)) (G:=Qj b) (by rw[e]) j l;rw[e] at d;exact d
  ·rw[e] at h;exact fun r m=>h r ⟨m.1,by obtain⟨s,g,d,t,v⟩:=m.2;exact⟨s,g,d,t,yc v⟩⟩
 ·rintro⟨_,_,_,A,L,w,x,y,rfl⟩;exact Gw f.good.asc w.asc ((EP j x y l h).2 rfl)
def xY(Kq:List Qq)(Kk:List LK)(sl:List Qz)(name:LK)(w w':LP)(e:Ending):Prop:=
 ∃(da:LM) (ns:List LK),e= .returned (.slice da ns.length ns.length)/\jg w' w.heap.size w'.heap.size da ns/\nC Kq Kk sl name ns/\K_ w w'
theorem nA{e:List Qq}{a:List Zx}{h:LK->List Nat}(b:BS e a h)(i:mI (Q_ e) (Qj (Qk a)))(n s:LK):yN a h n s↔aS (Q_ e) (Qj (Qk a)) n s:=by
 constructor
 ·rintro⟨t,c,rfl,k⟩;have l:=bI b.good.asc (Le (f:=fun t:Zx=>t.r) c);exact (Ap b.good.env i l s).1 ((b.wt s t c).1 k)
 ·intro j;obtain⟨r,d⟩:∃r,Qj (Qk a) n=some r:=by obtain⟨r,_,d,_⟩:=j;exact⟨r,d⟩
  obtain⟨m,p⟩:=bF d;obtain⟨t,c,rfl⟩:=Ku.1 m;exact⟨t,c,p,(b.wt s t c).2 ((Ap b.good.env i d s).2 j)⟩
theorem wh(w:LP)(a:LM)(B:Nat)(c:List Qq)(k:LM)(l:Nat)(Kk:List LK)(m:LM)(C:Nat)(b:List Qz)(d:LK)(a6:d.size<=maxLen)(hl:c.length<=1048576)(hf:∀s∈c,s.Fits)(a7:Kk.length<=maxLen)(a8:Kk.length<=l)(a9:∀s∈Kk,s.size<=maxLen)(b0:b.length<=1048576)(b1:∀r∈b,r.texts.length<=1048576)(hS:bN w a c)(hR:Strs w k Kk)(hG:bD w m b)(b2:fT w):
  Calls prog 10 #[.agg #[.slice a c.length B],.agg #[.slice k Kk.length l,.slice m b.length C],.string d] w fun e w'=>xY c Kk b d w w' e:=by
 have f:K_ w ((w.alloc (.cells #[.slice a c.length B] 25)).alloc (.cells #[.slice k Kk.length l,.slice m b.length C] 29)):=(ag _ _).alloc _;go_enter func10,ntmps10
 go_wp2_with fail
 refine (pJ _ a B c k l Kk m C b hl hf a7 a8 a9 b0 b1 (hS.kept f) (hR.kept f) (hG.kept f) (b2.kept f)).mono ?_;rintro e w1 ⟨D,b3⟩;have E:=f.trans D;rcases b3 with⟨T,rfl⟩|⟨F,U,hA,wz,bb,mb,mx,ts,c6,dc,c7,ws,b4,rfl,kz,V,G,b5,H,W,X⟩
 ·have b6:=Kz T;clear T D f;go_wp2
  go_ret
  exact⟨none,[],rfl,.inl rfl,.inr ⟨fun j=>b6.o ⟨j.1,j.2.1,j.good.asc⟩,rfl⟩,E⟩
 have I:=Kz (H.trans (rO F U G W X));have⟨Y,Z,a0,n⟩:=lg H V G F;clear U hA kz H W X D f V G F;cases b4
 ·go_wp2
  go_ret
  exact⟨none,[],rfl,.inl rfl,.inr ⟨fun j=>(by have J:=I.o.2 j;cases J),rfl⟩,E⟩
 have a1:Hid (Qk ts=b):=Y.o.1 rfl;have p:Hid (gJ c Kk b):=I.o.1 rfl;clear Y I;have b7:=Z.o.len (gG n.o);go_wp2_with fail
 refine (rC Z.o a0.o (aZ n.o) b5 b7).mono ?_;rintro e w2 ⟨mo,c8,g,ol,rfl,q,K,hM,k2⟩;have M:=q.look a6;obtain⟨t,v,N⟩:=ax (q.row d);rw[N] at M;have O:=q.row d;rw[N] at O;obtain⟨b8,c9,h,i⟩:=aX O;simp only[KX,true_and] at h;rw[<-h.1] at i;have b9:=K.len d;have⟨HI,a2⟩:=aH K i;obtain⟨L,P⟩:=aj (ol d);rw[<-P] at M a2 b9;have HL:=Kz P;clear q N O i h K P;go_wp2_with fail
 refine (uX w2 t L.length v).mono ?_;rintro e x ⟨rfl,y⟩;have k3:K_ w2 x:=by rw[y];exact ag _ _
 have a3:x.cell? ⟨w2.heap.size,0,none⟩=some (.slice t L.length v):=by rw[y];exact Xz w2 #[.slice t L.length v] 26 0 _ rfl
 have a4:w2.heap.size<x.heap.size:=by rw[y];simp
 clear y M;go_wp2_with fail
 refine (uN x w2.heap.size t v L (by omega) a4 a3 (a2.o.kept k3)).mono ?_;rintro e w4 ⟨d0,A,rfl,Q,R,k4⟩;obtain⟨c0,c1,rfl⟩:=ax Q;obtain⟨b8,c9,h,i⟩:=aX Q;simp only[KX,true_and] at h;rw[<-h.1] at i;have S:Hid (nu (Q_ c) (Qj b) d A):=by
  rw[HL.o] at R;obtain⟨h1,J⟩:=R.asc (HI.o.nd d);refine⟨h1,fun s=>?_⟩;rw[J,HI.o.iff,<-a1.o];rw[nA a0.o (by rw[a1.o];exact p.o.asked)];simp
 have d1:=S.o.len (aZ n.o) p.o.good.env;have c2:Hid (∀s∈A,s.size<=1048576):=fun s hs=>by
  have:=((S.o.2 s).1 hs).size (aZ n.o) p.o.good.env;omega
 have c3:=Kz i;clear Q R i h a3 a4;go_wp2_with fail
 refine (sG w4 c0 c1 A (by omega) c2.o c3.o).mono ?_;rintro e w5 ⟨c4,rfl,a5,k5⟩;have c5:=Kz a5;have K4:=E.trans (k2.trans (k3.trans k4));have KF:=K4.trans k5;have zz:=K4.size;clear a5;go_wp2
 go_ret
 exact⟨c4,A,rfl,c5.o.mono (by omega) (JP _),.inl ⟨p.o,S.o⟩,KF⟩
def Hw(nm:List LK)(ps:List Nat)(w w':LP)(e:Ending):Prop:=
 ∃da:LM,e= .returned (.slice da (ps.map (nameOf nm)).length (ps.map (nameOf nm)).length)/\jg w' w.heap.size w'.heap.size da (ps.map (nameOf nm))/\K_ w w'
theorem Bi(w:LP)(l:LM)(n:Nat)(a:List LK)(v1 v2:LQ)(_h1c:v1.oneCell'=true)(_h2c:v2.oneCell'=true)(F:LM)(N:Nat)(ps:List Nat)(G:∀p∈ps,p<a.length)(b7:ps.length<=1000)(_hnl:a.length<=1000)(O:∀s∈a,s.size<=1048576)(P:Strs w l a)(Q:m_ w F ps):
  Calls prog 35 #[.agg #[.slice l a.length n,v1,v2],.slice F ps.length N] w fun e w'=>Hw a ps w w' e:=by
 obtain⟨R,S,T,U,V⟩:=aQ Tryz.bY;obtain⟨b,m⟩:=aj (w.alloc (.cells #[.slice l a.length n,v1,v2] 68));have q:K_ w b:=by rw[m];exact ag _ _
 have W:b.cell? ⟨w.heap.size,0,none⟩=some (.slice l a.length n):=by rw[m];exact Xz w #[.slice l a.length n,v1,v2] 68 0 _ rfl
 have X:w.heap.size<b.heap.size:=by rw[m];simp
 go_enter func35,ntmps35
 go_upto_region 1 with fail
 rw[<-m];clear m;go_wp2
 go_loopg [5,10] ps.length (fun Y Z a0 wr=>∃(i:Nat) (c:LM) (d:Nat),Z= .slice c i d/\a0= .int .i64 (i:Int)/\i+Y=ps.length/\K_ b wr/\Hid (wr.ownsRow b.heap.size 9 1 (.slice c i d) i (((ps.take i).map (nameOf a)).map Value.string)))
 case atStart=>exact⟨0,none,0,rfl,rfl,by omega,K_.refl _,Ld _ _ _ _⟩
 case round=>
  obtain⟨i,c,d,rfl,rfl,hi,f,y⟩:=hrel;by_cases b8:(i:Int)<(ps.length:Int)
  ·have r:i<ps.length:=by omega
   obtain⟨pb,po,e1,b9,a1⟩:=(Q.kept (q.trans f)) i r;subst e1;obtain⟨p,h⟩:=aj (ps.getD i 0);rw[<-h] at a1;have a2:p<a.length:=G p (by rw[h];simp[List.getD,r]);obtain⟨sb,so,e2,c0,a3⟩:=(P.kept (q.trans f)) p a2;subst e2;obtain⟨s,j⟩:=aj (a.getD p ByteArray.empty);rw[<-j] at a3;have a4:Hid ((ps.take (i+1)).map (nameOf a)= (ps.take i).map (nameOf a)++ [s]):=by
    show _=_;rw[JX r,LA,j,h];simp[nameOf,List.getD,r]
   have c1:=(f.cell X).trans W;have c2:(p:Int)<(a.length:Int):=by omega
   clear h j;have A:K_ wr (wr.alloc (.cells #[.string s] 9)):=ag _ _;have H:=Kz (ai y.o A);have I:=Kz (f.trans A);have a5:b.heap.size<=(wr.alloc (.cells #[.string s] 9)).heap.size:=I.out.size;have a6:Hid (∀t u,([.string s]:List LQ)[t]? =some u->(wr.alloc (.cells #[.string s] 9)).cell? ((⟨wr.heap.size,0,none⟩:Addr).add t)=some u):=fun t u v=>by rw[KZ];exact Xz wr #[.string s] 9 t u v
   have a7:Hid (∀u∈([.string s]:List LQ),u.oneCell'=true):=fun u v=>by simp only[Lb,Lc,or_false] at v;subst v;rfl
   clear A;go_wp2_with (at_builtin;refine wpList_append_own _ rfl (.tmp 14) (.tmp 20) 26 rfl b.heap.size 9 R _ 1 16 underlying26 S T U V rfl (by decide) (.slice c i d) i (((ps.take i).map (nameOf a)).map Value.string) rfl H.o ⟨wr.heap.size,0,none⟩ 1 1 [.string s] rfl rfl a6.o a7.o (by unfold maxLen;omega) (by omega) a5 ?_;intro v' w6 B J _;have KP:=aG I.out (JP _) H.o J;have a8:=Kz B;obtain⟨a9,b0,rfl⟩:=ax B;clear B J)
   go_roundg (gk-1)
   case measure=>omega
   case rel=>exact⟨i+1,a9,b0,rfl,by go_num,by omega,KP,Kz (by rw[a4.o,LA];exact a8.o)⟩
  ·have b1:i=ps.length:=by omega
   subst b1;rw[KI] at y;obtain⟨c3,c9,C,D⟩:=aX y.o;simp only[KX] at C;rw[<-C.1] at D;have K:=Kz D;obtain⟨k,x⟩:=aj (ps.map (nameOf a));have L:ps.length=k.length:=by rw[x];simp
   rw[<-x] at K;have E:=Kz x;have b2:Hid (∀s∈k,s.size<=1048576):=fun s j=>by
    rw[E.o] at j;obtain⟨p,h,rfl⟩:=Ku.1 j;have:=G p h;exact O _ (by rw[iP this];exact J_ this)
   have b3:Hid (Calls prog 30 #[.slice c ps.length d,.func (.func 33) #[] #[]] wr fun e w'=>∃da,e= .returned (.slice da k.length k.length)/\jg w' wr.heap.size w'.heap.size da k/\K_ wr w'):=by
    show Calls _ _ _ _ _;rw[L];exact sG wr c d k (by omega) b2.o K.o
   clear C D x L;go_wp2_with fail
   refine b3.o.mono ?_;rintro e w5 ⟨b4,rfl,M,k5⟩;have b5:=Kz M;clear M;go_wp2
   go_ret
   refine⟨b4,by rw[E.o];rfl, ?_,(q.trans f).trans k5⟩;have b6:=b5.o;rw[<-E.o];have hz:=(q.trans f).size;exact b6.mono hz (JP _)
theorem lQ{P:Program}{h:Array Oper}{rest:List Oper}{e:Oper}{a:Act}{f:LP}{Q:Exit->Act->LP->Prop}(hgd:e.guard=none)(d:TypeId)(x y:Operand)(j:e.op= .store d x y)(c b:Array LQ)(k:a.eval x= .pointer (some ⟨f.heap.size,0,none⟩))(l:a.eval y= .agg b)(m:(P.info? d).map (·.size)=some b.size)(n:c.size=b.size)(p:b.all (·.oneCell')=true)
  (q:wpList P h Q rest (a.put e.dst undef) (f.alloc (.cells b d))):wpList P h Q (e :: rest) a (f.alloc (.cells c d)):=
 wpList_plain hgd fun _ r=>by
  unfold Oper.wp execOp;simp only[j,k,l,Instr.storeAt,Instr.sureAddr,Sem.run_bind,Sem.run_pure,Result.andThen_ok,run_storeVar_new f d c b m n p];exact r _ _ q
theorem Tryz.GJ :(prog.info? 3).map (fun i=>(i.zero,i.size,i.bytes))=some (some (.int .i64 0),1,8):=by kernel_rfl
theorem iJ.new(w:LP)(A:Nat->Nat):iJ (w.alloc (.cells (mP A) 122)) w.heap.size A:=by
 have h:=World.rowIs_alloc w (mP A) 122 (fun i=>ig (A i)) (fun i c=>by
  rw[eU] at c;simp[mP,c])
 rw[eU] at h;exact h
theorem FN(w:LP)(a b:Nat)(A:Nat->Nat)(left p:Nat)(c:p<60)(d:iJ w a A)(h:w.cell? ⟨b,0,none⟩=some (.int .i64 (left:Int))):
  Calls prog 145 #[.int .i64 (p:Int),.pointer (some ⟨a,0,none⟩),.pointer (some ⟨b,0,none⟩)] w fun e w'=>e= .returned (.bool (((A p:Nat):Int) == (left:Int)))/\K_ w w':=by
 have f:=d.cell c;unfold ig at f;have i:(p:Int)<60:=by omega
 go_enter func145,ntmps145
 go_wp2
 go_region
 go_wp2
 go_ret
 exact⟨rfl,(aL _)⟩
def Jd(A:Nat->Nat)(left:Nat)(l:List Nat)(e:Ending):Prop:=∃k,e= .returned (.int .i64 ((k:Nat):Int))/\∃hk:k<l.length,A l[k]=left/\∀j (hj:j<l.length),j<k->A l[j]≠left
theorem wG(w:LP)(s:LM)(y:Nat)(l:List Nat)(m d:Nat)(A:Nat->Nat)(left:Nat)(N:l.length<=60000000)(B:∀p∈l,p<60)(C:d<w.heap.size)(D:m_ w s l)(E:iJ w m A)(F:w.cell? ⟨d,0,none⟩=some (.int .i64 (left:Int)))(G:∃p∈l,A p=left):
  Calls prog 144 #[.slice s l.length y,.func (.func 145) #[] #[.pointer (some ⟨m,0,none⟩),.pointer (some ⟨d,0,none⟩)]] w fun e w'=>Jd A left l e/\K_ w w':=by
 go_enter func144,ntmps144
 go_wp2
 go_loopw [8] (fun x wr=>∃i:Nat,i<=l.length/\x= .int .i64 (i:Int)/\Hid (∀j (f:j<l.length),j<i->A l[j]≠left)/\K_ w wr) (fun x _=>l.length-(intOf x).toNat)
 case atStart=>exact⟨0,JR _,rfl,Kz (fun j _ H=>aT H),K_.refl _⟩
 case round=>
  obtain⟨i,O,rfl,n,h⟩:=hrel;by_cases k:i<l.length;rotate_left
  ·exfalso
   obtain⟨p,a,I⟩:=G;obtain⟨j,f,rfl⟩:=Kb a;exact n.o j f (by omega) I
  obtain⟨b,o,J,P,K⟩:=(D.kept h) i k;subst J;obtain⟨p,a⟩:=aj (l.getD i 0);rw[<-a] at K;have q:l[i]=p:=by rw[a];simp[List.getD,k]
  have t:=Kz q;have L:p<60:=B p (by rw[<-q];exact J_ k);have Q:(i:Int)<(l.length:Int):=by omega
  clear a q;go_wp2_with fail
  refine (FN wr m d A left p L (ja E h) ((h.cell C).trans F)).mono ?_;rintro e w1 ⟨rfl,M⟩;have v:=h.trans M;by_cases r:A p=left
  ·have c:(((A p:Nat):Int) == (left:Int))=true:=by simp[r]
   rw[c];clear c;go_wp2
   go_ret
   exact⟨⟨i,rfl,k,by rw[t.o];exact r,n.o⟩,v⟩
  ·have c:(((A p:Nat):Int) == (left:Int))=false:=by simp;omega
   rw[c];clear c;go_wp2
   go_roundw
   case rel=>
    refine⟨i+1,by omega,by go_num,Kz (fun j f R=>?_),v⟩;rcases Nat.lt_or_ge j i with e | e
    ·exact n.o j f e
    ·have:j=i:=by omega
     subst this;rw[t.o];exact r
   case measure=>simp[intOf];omega
def Ih(R:Nat->Nat->Prop)(n t:Nat)(w w':LP)(e:Ending):Prop:=∃(av:LM) (cv:Nat) (l:List Nat),e= .returned (.slice av l.length cv)/\m_ w' av l/\l.length<=60/\(∀p∈l,p<n)/\(l=[]->∀m,¬jm R t m)/\(l≠[]->∃m,jm R t m/\kQ R t m t l/\l.length=m)/\K_ w w'
theorem vZ(w:LP)(n:LM)(F:Nat)(a:List LK)(nb r:Nat)(m back:Nat->List Nat)(E:LK->LK->Prop)(M:Nat)(t:Nat)(ht:t<a.length)(hn:a.length<=60)(hM:M<=60000000)(Y:pq w n a nb r m back)(s:vM E a M m back):
  Calls prog 108 #[.agg #[.slice n a.length F,.slice (some ⟨nb,0,none⟩) a.length a.length,.slice (some ⟨r,0,none⟩) a.length a.length],.int .i64 (t:Int)] w fun e w'=>Ih (bE E a) a.length t w w' e:=by
 obtain⟨K,G⟩:=aj (w.alloc (.cells #[.slice n a.length F,.slice (some ⟨nb,0,none⟩) a.length a.length,.slice (some ⟨r,0,none⟩) a.length a.length] 68));have k1:K_ w K:=by rw[G];exact ag _ _
 have s0:K.cell? ⟨w.heap.size,0,none⟩=some (.slice n a.length F):=by rw[G];exact Xz w #[.slice n a.length F,.slice (some ⟨nb,0,none⟩) a.length a.length,.slice (some ⟨r,0,none⟩) a.length a.length] 68 0 _ rfl
 have s1:K.cell? ⟨w.heap.size,1,none⟩=some (.slice (some ⟨nb,0,none⟩) a.length a.length):=by rw[G];exact Xz w #[.slice n a.length F,.slice (some ⟨nb,0,none⟩) a.length a.length,.slice (some ⟨r,0,none⟩) a.length a.length] 68 1 _ rfl
 have s2:K.cell? ⟨w.heap.size,2,none⟩=some (.slice (some ⟨r,0,none⟩) a.length a.length):=by rw[G];exact Xz w #[.slice n a.length F,.slice (some ⟨nb,0,none⟩) a.length a.length,.slice (some ⟨r,0,none⟩) a.length a.length] 68 2 _ rfl
 have z1:w.heap.size<K.heap.size:=by rw[G];simp
 go_enter func108,ntmps108
 go_upto_region 1 with fail
 rw[<-G];clear G;go_wp2_with fail
 refine (pg K n F a nb r m back E M t ht hn hM (Y.kept k1) s).mono ?_;rintro e w2 ⟨H,size,rfl,hD,i7,Z⟩;have⟨HD,c1⟩:=aH hD s1;clear s0 s1 s2 hD;obtain⟨Q,L⟩:=aj (mP H);have HI:Hid ((prog.info? 122).map (·.size)=some Q.size):=by rw[L,eU];exact Tryz.ow
 have f2:Hid ((Array.replicate 60 (Value.int .i64 0)).size=Q.size):=by show _=_;rw[L,eU];simp
 have f3:Hid (Q.all (·.oneCell')=true):=by rw[L];exact oI H
 obtain⟨c,R⟩:=aj (w2.alloc (.cells Q 122));have a0:K_ w2 c:=by rw[R];exact ag _ _
 have c2:Hid (iJ c w2.heap.size H):=by rw[R,L];exact iJ.new w2 H
 rw[<-L];have N:=(k1.trans Z).trans a0;have c3:w.heap.size<c.heap.size:=JQ z1 (Z.trans a0).size;have c4:=Kz (((Z.trans a0).cell z1).trans c1.o);obtain⟨ab,c5⟩:=aj w2.heap.size;have f4:w2.heap.size<c.heap.size:=by rw[R];simp
 have⟨f5,f6⟩:=aH R c5;clear L R c5 c1 a0 Z k1 z1;go_upto_region 2 with (rw (transparency:= .default) [z60];refine lQ rfl 122 (.tmp 5) (.tmp 15) rfl _ Q rfl rfl HI.o f2.o f3.o ?_)
 rw[<-f5.o];rw[<-f6.o] at c2 f4⊢;by_cases S:size=0
 ·have f7:((size:Int) == 0)=true:=by simp[S]
  have f8:=Kz (HD.o.no S);clear S;go_wp2
  go_ret
  exact⟨none,0,[],rfl,fun i hi=>aT hi,JR _,fun p v=>(by cases v),fun _=>f8.o,fun h=>Lv rfl h,N⟩
 have f7:((size:Int) == 0)=false:=by simp;omega
 obtain⟨a5,c6⟩:=HD.o.yes S;have⟨c7,c8⟩:=aH a5 c6;have i8:1<=size:=a5.1;clear a5 c6 S;obtain⟨d,T⟩:=aj (c.alloc (.cells #[.int .i64 (t:Int)] 3));have kB:K_ c d:=by rw[T];exact ag _ _
 have a1:Hid (c.heap.size+1=d.heap.size):=by show _=_;rw[T];simp
 have a6:d.ownsRow c.heap.size 3 1 (.slice (some ⟨c.heap.size,0,none⟩) 1 1) [t].length ([t].map ig):=by
  rw[T];exact⟨rfl,.inr ⟨c.heap.size,1,_,rfl,JP _,heap_alloc_new c _,JP _,by unfold maxLen;omega,rfl,rfl⟩⟩
 obtain⟨WC,U⟩:=aj (d.alloc (.cells #[.int .i64 (size:Int)] 3));have kC:K_ d WC:=by rw[U];exact ag _ _
 have a7:Hid (aC WC d.heap.size 3 1):=by rw[U];exact aC.made d #[.int .i64 (size:Int)] 3
 have a8:Hid (WC.cell? ⟨d.heap.size,0,none⟩=some (.int .i64 (size:Int))):=by rw[U];exact Xz d #[.int .i64 (size:Int)] 3 0 _ rfl
 have b0:=Kz (ai a6 kC);have d0:=Kz (kB.trans kC);have⟨d1,d2,f9⟩:=dK T U a6;clear T U a6 kB kC;go_upto_region 6 with fail
 rw[<-d1.o,<-d2.o,a1.o];have O:Hid (c.heap.size<=d.heap.size/\∀f,(Value.slice (some ⟨c.heap.size,0,none⟩) [t].length 1).ownBlock=some f->f≠d.heap.size):=⟨by have:=a1.o;omega,fun f e=>by simp only[Value.ownBlock,KT] at e;have:=a1.o;omega⟩;obtain⟨oa,b1⟩:=aj c.heap.size;obtain⟨k,d3⟩:=aj d.heap.size;rw[<-b1] at b0 O⊢;rw[<-d3] at O a7 a8⊢;have b2:=Kz b1;clear b1 d3 f9 a1 d1 d2;go_wp2
 go_loopg [7,8,9] size (fun gg x7 x8 x9 wr=>∃(l:List Nat) (b k:Nat) (A:LM) (I:Nat),x7= .slice A l.length I/\x8= .int .i64 (b:Int)/\x9= .pointer (some ⟨k,0,none⟩)/\Hid (oV (bE E a) t size l b gg)/\Hid (∀p∈l,p<a.length)/\Hid (wr.ownsRow oa 3 1 (.slice A l.length I) l.length (l.map ig))/\Hid (aC wr k 3 1)/\Hid (wr.cell? ⟨k,0,none⟩=some (.int .i64 (gg:Int)))/\Hid (oa<=k/\∀f,(Value.slice A l.length I).ownBlock=some f->f≠k)/\Hid (K_ c wr))
 case atStart=>exact⟨[t],t,k,_,1,rfl,rfl,rfl,Kz (oV.start c7.o),Kz (fun p v=>by rw[JY] at v;rw[v];exact ht),b0,a7,a8,O,d0⟩
 case round=>
  clear b0 a7 a8 O d0;obtain⟨l,b,k,A,I,rfl,rfl,rfl,B,b3,HO,a2,a3,O,J⟩:=hrel;have cl:=a3.o;have g0:=B.o.pos;have g1:=B.o.len;by_cases b4:gk=1
  ·have i9:¬((1:Int)<(gk:Int)):=by omega
   have g2:Hid (kQ (bE E a) t size t l):=by have h:=B.o;rw[b4] at h;exact h.done
   have d4:Hid (l.length=size):=by show l.length=size;omega
   have g3:Hid (l≠[]):=by obtain⟨l0,e⟩:=B.o.last;show l≠[];rw[e];simp
   have g4:Hid (m_ wr A l):=by
    obtain⟨a9,c9,e9,_,h9⟩:=mF HO.o rfl;simp only[KX,true_and] at e9;rw[<-e9.1] at h9;exact h9
   clear b4 g1 g0;go_wp2
   go_ret
   exact⟨A,I,l,rfl,g4.o,by have:=d4.o;omega,b3.o,fun e=>Lv e g3.o,fun _=>⟨size,c7.o,g2.o,d4.o⟩,N.trans J.o⟩
  have j0:1<=l.length:=by obtain⟨l0,e⟩:=B.o.last;rw[e];simp
  have j1:(1:Int)<(gk:Int):=by omega
  obtain⟨q,hq⟩:∃q,gk=q+1:=⟨gk-1,by omega⟩;have g5:1<=q:=by omega
  have HQ:=Kz hq;have g6:b<a.length:=b3.o b (by obtain⟨l0,e⟩:=B.o.last;rw[e];simp);obtain⟨da,dc,b5,d5⟩:=Y.fwd b g6;have g7:Hid (∃p∈m b,H p=gk):=by
   obtain⟨y,h1,h2⟩:=B.o.more (by omega);exact⟨y,(s.fwd b y).2 h1,by have:=(c8.o y (gk-1) (by omega)).2 h2;omega⟩
  have g8:(m b).length<=60000000:=JS (s.len b).1 hM;have g9:Hid (∀p∈m b,p<60):=fun p v=>by have:=((s.fwd b p).1 v).2.1;omega
  have q1:=(J.o.cell c3).trans c4.o;have q2:=((N.trans J.o).cell Y.nbl).trans b5;have j2:(b:Int)<(a.length:Int):=by omega
  have⟨d6,h0⟩:=aH d5 b5;clear hq b4 d5 b5;go_wp2_with fail
  refine (wG wr da dc (m b) ab k H gk g8 g9.o a2.o.lt (d6.o.kept (N.trans J.o)) (ja c2.o J.o) a3.o g7.o).mono ?_;rintro e C ⟨⟨a4,rfl,P,d7,d8⟩,V⟩;have W:=Kz (J.o.trans V);obtain⟨x,hx⟩:=aj ((m b)[a4]);have h3:Hid (yL (fun y=>bE E a b y/\Far (bE E a) t q y) x):=by
   have h4:=HQ.o;rw[hx];have d9:∀y,H y=gk↔Far (bE E a) t q y:=fun y=>by rw[h4];exact c8.o y q (by omega)
   exact yZ (p:=fun y=>bE E a b y/\Far (bE E a) t q y) (s.asc b) (fun y hy=>(s.fwd b y).2 hy.1) P ⟨(s.fwd b _).1 (J_ P),(d9 _).1 d7⟩ (fun j hj h5 h=>d8 j hj h5 ((d9 _).2 h.2))
  have h6:x<a.length:=by have:=((s.fwd b x).1 (by rw[hx];exact J_ P)).2.1;exact this
  obtain⟨eb,eo,e1,j3,h7⟩:=(d6.o.kept (N.trans W.o)) a4 P;subst e1;have e0:(m b).getD a4 0=x:=by rw[hx];simp[List.getD,P]
  rw[e0] at h7;have j4:(a4:Int)<((m b).length:Int):=by omega
  have q1:=(W.o.cell c3).trans c4.o;have q2:=((N.trans W.o).cell Y.nbl).trans h0.o;clear hx e0 d7 d8 P cl;have e2:=(V.cell a2.o.lt).trans a3.o;have e3:=Kz (ai HO.o V);have b6:=Kz (a2.o.kept V);obtain⟨ic,h8,i0,i1,i2⟩:=info_parts Tryz.GJ;have X:K_ C (C.alloc (.cells #[.int .i64 (x:Int)] 3)):=ag _ _;have b7:=Kz (ai e3.o X);have b8:=Kz (W.o.trans X);have e4:oa<=(C.alloc (.cells #[.int .i64 (x:Int)] 3)).heap.size:=by rw[b2.o];exact b8.o.size
  have e5:Hid (∀j u,([.int .i64 (x:Int)]:List LQ)[j]? =some u->(C.alloc (.cells #[.int .i64 (x:Int)] 3)).cell? ((⟨C.heap.size,0,none⟩:Addr).add j)=some u):=fun j u hu=>by rw[KZ];exact Xz C #[.int .i64 (x:Int)] 3 j u hu
  have e6:Hid (∀u∈([.int .i64 (x:Int)]:List LQ),u.oneCell'=true):=fun u hu=>by simp only[Lb,Lc,or_false] at hu;subst hu;rfl
  have e7:=Kz (b6.o.kept X);have e8:=Kz ((X.cell b6.o.lt).trans e2);have j5:l.length<=60:=by omega
  clear e2 V;go_upto_region 11 with (at_builtin;refine wpList_append_own _ rfl (.tmp 42) (.tmp 44) 52 rfl oa 3 ic _ 1 8 underlying52 h8 i0 i1 i2 rfl (by decide) (.slice A l.length I) l.length (l.map ig) rfl b7.o ⟨C.heap.size,0,none⟩ 1 1 [.int .i64 (x:Int)] rfl rfl e5.o e6.o (by unfold maxLen;omega) (by omega) e4 ?_;intro v' D b9 c0 _)
  have KP:Hid (K_ c D):=aG b8.o (by rw[b2.o];exact JP _) b7.o c0;have kg:But (fun f=>(Value.slice A l.length I).ownBlock=some f) (C.alloc (.cells #[.int .i64 (x:Int)] 3)) D:=But.aI c0 (fun f e=>e);have f0:=e7.o.lt;have j6:D.cell? ⟨k,0,none⟩=some (.int .i64 (gk:Int)):=(kg.cell f0 (fun e=>O.o.2 k e rfl)).trans e8.o;have f1:=Kz b9;obtain⟨i3,i4,rfl⟩:=ax b9;clear b9 c0 kg f0 e7 e8 e5 e6 b7 b8 e4 X b6 e3 HO a2 a3 J W;have i5:Hid (oV (bE E a) t size l b (q+1)):=by have h:=B.o;rw[HQ.o] at h;exact h
  have i6:Hid ((gk:Int)-1= (q:Int)):=by show _=_;have:=HQ.o;omega
  go_wp2_with fail
  rw[i6.o];have k8:K_ D (D.alloc (.cells #[.int .i64 (q:Int)] 3)):=ag _ _;go_roundg q
  case measure=>have:=HQ.o;omega
  case rel=>
   refine⟨l++ [x],x,D.heap.size,i3,i4,by rw[KS];rfl,rfl,rfl,Kz (i5.o.next g5 h3.o),Kz (fun p v=>?_),Kz ?_,Kz (aC.made D #[.int .i64 (q:Int)] 3),Kz (Xz D #[.int .i64 (q:Int)] 3 0 _ rfl),Kz ⟨?_,fun f e=>?_⟩,Kz (KP.out.trans k8)⟩
   ·rcases JZ.1 v with h|h
    ·exact b3.o p h
    ·rw[JY] at h;rw[h];exact h6
   ·rw[KS,LA];exact ai f1.o k8
   ·rw[b2.o];exact KP.out.size
   ·rw[KS] at e;have:=(f1.o.lt f e).2;omega
def EI(R:Nat->Nat->Prop)(n:Nat)(w w':LP)(e:Ending):Prop:=∃(av:LM) (cv:Nat) (best:List Nat),e= .returned (.slice av best.length cv)/\m_ w' av best/\best.length<=60/\(∀p∈best,p<n)/\iZ R n best/\K_ w w'
theorem BG(w:LP)(d:LM)(j:Nat)(a:List LK)(nb f:Nat)(A back:Nat->List Nat)(E:LK->LK->Prop)(M:Nat)(hn:a.length<=60)(hM:M<=60000000)(hV:pq w d a nb f A back)(hR:vM E a M A back):
  Calls prog 63 #[.agg #[.slice d a.length j,.slice (some ⟨nb,0,none⟩) a.length a.length,.slice (some ⟨f,0,none⟩) a.length a.length]] w fun e w'=>EI (bE E a) a.length w w' e:=by
 obtain⟨q,k⟩:=aj (w.alloc (.cells #[.slice d a.length j,.slice (some ⟨nb,0,none⟩) a.length a.length,.slice (some ⟨f,0,none⟩) a.length a.length] 68));have S:K_ w q:=by rw[k];exact ag _ _
 have T:Hid (∀u,K_ q u->u.cell? ⟨w.heap.size,0,none⟩=some (.slice d a.length j)/\u.cell? ⟨w.heap.size,1,none⟩=some (.slice (some ⟨nb,0,none⟩) a.length a.length)/\u.cell? ⟨w.heap.size,2,none⟩=some (.slice (some ⟨f,0,none⟩) a.length a.length)):=fun u B=>by
  have C:w.heap.size<q.heap.size:=by rw[k];simp
  have r:=Xz w #[.slice d a.length j,.slice (some ⟨nb,0,none⟩) a.length a.length,.slice (some ⟨f,0,none⟩) a.length a.length] 68;rw[<-k] at r;exact⟨(B.cell C).trans (r 0 _ rfl),(B.cell C).trans (r 1 _ rfl),(B.cell C).trans (r 2 _ rfl)⟩
 go_enter func63,ntmps63
 go_upto_region 1 with fail
 rw[<-k];clear k;obtain⟨D,F,G⟩:=T.o _ (K_.refl _);go_wp2_with fail
 clear D F G;go_loopw [3,9] (fun x3 H wr=>∃(i:Nat) (b:List Nat) (h:LM) (m:Nat),i<=a.length/\H= .int .i64 (i:Int)/\x3= .slice h b.length m/\b.length<=60/\Hid (m_ wr h b)/\Hid (∀U∈b,U<a.length)/\Hid (iZ (bE E a) i b)/\K_ q wr) (fun _ H _=>a.length-(intOf H).toNat)
 case atStart=>exact⟨0,[],none,0,JR _,rfl,rfl,JR _,Kz (fun i V=>aT V),Kz (fun U hp=>by cases hp),Kz (iZ.start _),K_.refl _⟩
 case round=>
  obtain⟨i,b,h,m,V,rfl,rfl,I,J,K,n,s⟩:=hrel;by_cases a6:i<a.length;rotate_left
  ·have a7:i=a.length:=by omega
   subst a7;go_wp2
   go_ret
   exact⟨h,m,b,rfl,J.o,I,K.o,n.o,S.trans s⟩
  obtain⟨D,F,G⟩:=T.o _ s;have b2:(i:Int)<(a.length:Int):=by omega
  go_wp2_with fail
  refine (vZ wr d j a nb f A back E M i a6 hn hM (hV.kept (S.trans s)) hR).mono ?_;rintro e w2 ⟨W,X,l,rfl,Y,Z,a0,a1,a2,L⟩;have⟨a3,a4⟩:=aH Y a0;have a5:=Kz (J.o.kept L);have t:=s.trans L;have⟨a8,a9⟩:=aH a1 a2;clear D F G Y a0 a1 a2 J L;by_cases v:l.length=0
  ·have hg:¬((0:Int)<(l.length:Int)):=by omega
   have N:Hid (iZ (bE E a) (i+1) b):=n.o.skip (fun x O=>Lv O (a8.o (Kh.1 v) x));clear v;go_wp2
   go_roundw
   case rel=>exact⟨i+1,b,h,m,by omega,by go_num,rfl,I,a5,K,N,t⟩
   case measure=>simp[intOf];omega
  have hg:(0:Int)<(l.length:Int):=by omega
  have P:=Kz (a9.o (fun e=>v (by rw[e];rfl)));clear v;by_cases c:b.length=0
  ·have b0:((b.length:Int) == 0)=true:=by simp[c]
   have Q:Hid (iZ (bE E a) (i+1) l):=by
    obtain⟨x,p,R,y⟩:=P.o;exact n.o.take p R y (.inl (Kh.1 c))
   clear c;go_wp2
   go_roundw
   case rel=>exact⟨i+1,l,W,X,by omega,by go_num,rfl,Z,a3,a4,Q,t⟩
   case measure=>simp[intOf];omega
  have b0:((b.length:Int) == 0)=false:=by simp;exact fun e=>c (by rw[e];rfl)
  by_cases b3:l.length<b.length
  ·have b1:(l.length:Int)<(b.length:Int):=by omega
   have Q:Hid (iZ (bE E a) (i+1) l):=by
    obtain⟨x,p,R,y⟩:=P.o;exact n.o.take p R y (.inr (by omega))
   clear c;go_wp2
   go_roundw
   case rel=>exact⟨i+1,l,W,X,by omega,by go_num,rfl,Z,a3,a4,Q,t⟩
   case measure=>simp[intOf];omega
  ·have b1:¬((l.length:Int)<(b.length:Int)):=by omega
   have N:Hid (iZ (bE E a) (i+1) b):=n.o.skip (fun x O=>by
    obtain⟨m',p,_,y⟩:=P.o;have:=p.unique O;exact⟨fun e=>c (by rw[e];rfl),by omega⟩)
   clear c;go_wp2
   go_roundw
   case rel=>exact⟨i+1,b,h,m,by omega,by go_num,rfl,I,a5,K,N,t⟩
   case measure=>simp[intOf];omega
def Fx(E:LK->LK->Prop)(w w':LP)(e:Ending):Prop:=
 ∃(da:LM) (ns:List LK),e= .returned (.slice da ns.length ns.length)/\jg w' w.heap.size w'.heap.size da ns/\ns.length<=60/\qg E ns/\K_ w w'
theorem zT(w:LP)(q:Nat)(j:LK->Prop)(c:LK->List LK)(all:List LK)(F:∀s,j s->s∈all)(G:all.length<=60)(H:∀s,j s->s.size<=20)(Y:∀s,(c s).length<=1000000)(I:si w q j c):
  Calls prog 27 #[.map (some q)] w fun e w'=>Fx (fun x y=>y∈c x) w w' e:=by
 go_enter func27,ntmps27
 go_wp2_with fail
 refine (tC w q j c all F G H Y I).mono ?_;rintro e w1 ⟨d,f,a,k,l,Z,a0,back,rfl,r,m,J,L,hM,M⟩;have a1:a.length<=60:=by
  refine JS (List.Nodup.length_le_of_subset ?_ (fun x hx=>F x ((m x).1 hx))) G;exact r.imp fun {b2 b3} a2=>dA a2
 have a3:Hid (gB (fun x y=>y∈c x) a):=⟨r,fun x y N=>(m x).2 (I.sub x (fun e=>by rw[e] at N;cases N))⟩;have a4:Hid (∀s∈a,s.size<=1048576):=fun s hs=>by have:=H s ((m s).1 hs);omega
 have O:=Kz L;obtain⟨t,i⟩:=aj (w1.alloc (.cells #[.slice d a.length f,.slice (some ⟨k,0,none⟩) a.length a.length,.slice (some ⟨l,0,none⟩) a.length a.length] 68));have v:K_ w1 t:=by rw[i];exact ag _ _
 obtain⟨A,B⟩:=aj w1.heap.size;have n:Hid (∀u,K_ t u->u.cell? ⟨A,0,none⟩=some (.slice d a.length f)/\u.cell? ⟨A,1,none⟩=some (.slice (some ⟨k,0,none⟩) a.length a.length)/\u.cell? ⟨A,2,none⟩=some (.slice (some ⟨l,0,none⟩) a.length a.length)):=fun u C=>by
  have D:w1.heap.size<t.heap.size:=by rw[i];simp
  have h:=Xz w1 #[.slice d a.length f,.slice (some ⟨k,0,none⟩) a.length a.length,.slice (some ⟨l,0,none⟩) a.length a.length] 68;rw[<-i] at h;rw[B];exact⟨(C.cell D).trans (h 0 _ rfl),(C.cell D).trans (h 1 _ rfl),(C.cell D).trans (h 2 _ rfl)⟩
 have P:=Kz (J.kept v);have a5:=Kz (M.trans v);have⟨a6,a7⟩:=aH i B;clear r m J L M v i B;go_upto_region 2 with fail
 rw[<-a6.o,<-a7.o];refine bf 4 n.o fun wd Q E=>?_
 refine af 0 E ?_;refine af 1 E ?_;refine ak 2 (fun K b=>?_);go_simp
 go_at_call 63
 refine (BG wd d f a k l a0 back _ Z a1 hM (P.o.kept Q) O.o).mono ?_;rintro e w3 ⟨pa,pc,R,rfl,S,a8,T,U,k3⟩;have p:=Q.trans k3;have⟨a9,b0,b1⟩:=dK S U T;clear S U T;dsimp only;refine ae b (fun _=>n.o _ p) ?_;clear b K E;refine ak 3 (fun K b=>?_);go_simp
 go_at_call 35
 refine (Bi w3 d f a _ _ rfl rfl pa pc R b1.o (by omega) (by omega) a4.o (P.o.kept p).names a9.o).mono ?_;rintro e w4 ⟨da,rfl,V,W⟩;have K4:=p.trans W;have HT:=Kz V;have X:=Kz (a5.o.trans p);clear V;dsimp only;refine ae b (fun _=>n.o _ K4) ?_;clear b K;refine ah 4 (fun K b=>?_);go_simp
 refine ae b (fun h=>Lv rfl h) ?_;clear b K;refine aB ?_;clear n O;go_wp2
 go_ret
 refine⟨da,R.map (nameOf a),by rw[Lm];rfl,HT.o.mono X.o.size (JP _),by rw[Lm];exact a8,b0.o.Jo a3.o,X.o.trans W⟩
def Cz(Kq:List Qq)(Kk:List LK)(sl:List Qz)(w w':LP)(e:Ending):Prop:=
 ∃(da:LM) (ns:List LK),e= .returned (.slice da ns.length ns.length)/\jg w' w.heap.size w'.heap.size da ns/\gp Kq Kk sl ns/\K_ w w'
theorem u_(w:LP)(a:LM)(q:Nat)(c:List Qq)(k:LM)(l:Nat)(Kk:List LK)(m:LM)(v:Nat)(b:List Qz)(hl:c.length<=1048576)(x:∀s∈c,s.Fits)(a1:Kk.length<=maxLen)(a2:Kk.length<=l)(a3:∀s∈Kk,s.size<=maxLen)(a4:b.length<=1048576)(a5:∀r∈b,r.texts.length<=1048576)(hS:bN w a c)(hR:Strs w k Kk)(hG:bD w m b)(a6:fT w):
  Calls prog 6 #[.agg #[.slice a c.length q],.agg #[.slice k Kk.length l,.slice m b.length v]] w fun e w'=>Cz c Kk b w w' e:=by
 have d:K_ w ((w.alloc (.cells #[.slice a c.length q] 25)).alloc (.cells #[.slice k Kk.length l,.slice m b.length v] 29)):=(ag _ _).alloc _;go_enter func6,ntmps6
 go_wp2_with fail
 refine (pJ _ a q c k l Kk m v b hl x a1 a2 a3 a4 a5 (hS.kept d) (hR.kept d) (hG.kept d) (a6.kept d)).mono ?_;rintro e w1 ⟨A,a7⟩;have B:=d.trans A;rcases a7 with⟨L,rfl⟩|⟨C,M,D,wz,bb,mb,mx,E,c4,dc,f,ws,a8,rfl,kz,N,F,b0,G,O,P⟩
 ·have b1:=Kz L;clear L A d;go_wp2
  go_ret
  exact⟨none,[],rfl,.inl rfl,⟨JR _,.inr ⟨fun h=>b1.o ⟨h.1,h.2.1,h.good.asc⟩,rfl⟩⟩,B⟩
 have H:=Kz (G.trans (rO C M F O P));have⟨Q,R,I,J⟩:=lg G N F C;clear M D kz G O P A d N F C;cases a8
 ·go_wp2
  go_ret
  exact⟨none,[],rfl,.inl rfl,⟨JR _,.inr ⟨fun h=>(by have h2:=H.o.2 h;cases h2),rfl⟩⟩,B⟩
 have S:Hid (Qk E=b):=Q.o.1 rfl;have T:Hid (gJ c Kk b):=H.o.1 rfl;clear Q H;have U:=R.o.len (gG J.o);go_wp2_with fail
 refine (rC R.o I.o (aZ J.o) b0 U).mono ?_;rintro e w2 ⟨V,c5,g,i,rfl,n,p,hM,k2⟩;have b2:Hid ((fun W y=>y∈i W)=aS (Q_ c) (Qj b)):=by
  show _=_
  funext W y
  rw[p.iff,<-S.o,nA I.o (by rw[S.o];exact T.o.asked)];simp
 have X:Hid (∀s,i s≠[]->s∈E.map (·.r.name)):=fun s j=>by
  obtain⟨y,hy⟩:=List.exists_mem_of_ne_nil _ j;obtain⟨_,t,K,hn,_⟩:=(p.iff s y).1 hy;rw[<-hn];exact Ku.2 ⟨t,K,rfl⟩
 have b3:Hid (∀s,i s≠[]->s.size<=20):=fun s j=>by
  obtain⟨t,K,rfl⟩:=Ku.1 (X.o s j);obtain⟨c6,D,_⟩:=(I.o.good.good t.r (Le (f:=fun t:Zx=>t.r) K)).act;exact (aZ J.o _ _ D).2.2.1
 have b4:Hid (si w2 V (fun s=>i s≠[]) i):=by
  obtain⟨b5,b6,hN,b7,x,hh⟩:=n.map;refine⟨⟨b5,b6,by omega,b7,fun s j=>?_,hh⟩,fun s h=>h⟩;obtain⟨va,vc,hg⟩:=ax (n.row s);have b8:=n.row s;obtain⟨a9,c9,e9,b9⟩:=aX b8;exact⟨a9,c9,by rw[x s j,e9],b9⟩
 have c0:Hid (∀s,(i s).length<=1000000):=fun s=>by have:=p.len s;omega
 clear n p;go_wp2_with fail
 refine (zT w2 V _ i (E.map (·.r.name)) X.o (by rw[Lm];exact U) b3.o c0.o b4.o).mono ?_;rintro e w3 ⟨da,Y,rfl,Z,c1,a0,k3⟩;have c2:=Kz Z;have c3:Hid (qg (aS (Q_ c) (Qj b)) Y):=by rw[<-b2.o];exact a0
 have K2:=B.trans k2;have zz:=K2.size;clear Z a0;go_wp2
 go_ret
 exact⟨da,Y,rfl,c2.o.mono (by omega) (JP _),⟨c1,.inl ⟨T.o,c3.o⟩⟩,K2.trans k3⟩
def sj(R:Nat->Nat->Prop)(q:Nat):Prop:=∃m,jm R q m
def FO(R:Nat->Nat->Prop)(n:Nat)(w w':LP)(e:Ending):Prop:=∃(av:LM) (cv:Nat) (l cs:List Nat),e= .returned (.slice av l.length cv)/\m_ w' av l/\l.length<=60/\l.Pairwise (· < ·)/\(∀q,q∈cs↔q<n/\sj R q)/\(∀p,p∈l↔p<n/\mJ R cs p)/\K_ w w'
theorem EO(w:LP)(h:LM)(m:Nat)(a:List LK)(nb j:Nat)(x back:Nat->List Nat)(E:LK->LK->Prop)(M:Nat)(U:a.length<=60)(V:M<=60000000)(W:pq w h a nb j x back)(X:vM E a M x back):
  Calls prog 36 #[.agg #[.slice h a.length m,.slice (some ⟨nb,0,none⟩) a.length a.length,.slice (some ⟨j,0,none⟩) a.length a.length]] w fun e w'=>FO (bE E a) a.length w w' e:=by
 obtain⟨k,r⟩:=aj (w.alloc (.cells #[.slice h a.length m,.slice (some ⟨nb,0,none⟩) a.length a.length,.slice (some ⟨j,0,none⟩) a.length a.length] 68));have J:K_ w k:=by rw[r];exact ag _ _
 have Y:Hid (∀u,K_ k u->u.cell? ⟨w.heap.size,0,none⟩=some (.slice h a.length m)/\u.cell? ⟨w.heap.size,1,none⟩=some (.slice (some ⟨nb,0,none⟩) a.length a.length)/\u.cell? ⟨w.heap.size,2,none⟩=some (.slice (some ⟨j,0,none⟩) a.length a.length)):=fun u K=>by
  have L:w.heap.size<k.heap.size:=by rw[r];simp
  have y:=Xz w #[.slice h a.length m,.slice (some ⟨nb,0,none⟩) a.length a.length,.slice (some ⟨j,0,none⟩) a.length a.length] 68;rw[<-r] at y;exact⟨(K.cell L).trans (y 0 _ rfl),(K.cell L).trans (y 1 _ rfl),(K.cell L).trans (y 2 _ rfl)⟩
 go_enter func36,ntmps36
 go_upto_region 1 with fail
 rw[<-r];clear r;obtain⟨A,B,C⟩:=Y.o _ (K_.refl _);go_wp2_with fail
 clear A B C;go_loopw [3,10] (fun x3 N wr=>∃(i:Nat) (c:List Nat) (l:LM) (n:Nat),i<=a.length/\N= .int .i64 (i:Int)/\x3= .slice l c.length n/\c.length<=i/\Hid (wr.ownsRow k.heap.size 3 1 (.slice l c.length n) c.length (c.map ig))/\Hid (c.Nodup)/\Hid (∀q,q∈c↔q<i/\sj (bE E a) q)/\K_ k wr) (fun _ N _=>a.length-(intOf N).toNat)
 case atStart=>exact⟨0,[],none,0,JR _,rfl,rfl,JR _,Ld _ _ _ _,Kz List.nodup_nil,Kz (fun q=>by simp),K_.refl _⟩
 case round=>
  obtain⟨i,c,l,n,hi,rfl,rfl,d3,O,P,D,s⟩:=hrel;obtain⟨A,B,C⟩:=Y.o _ s;by_cases Z:i<a.length;rotate_left
  ·have d4:¬((i:Int)<(a.length:Int)):=by omega
   have b1:Hid (i=a.length):=by show i=a.length;omega
   have b2:Hid (m_ wr l c):=by
    obtain⟨a9,d5,a0,_,h9⟩:=mF O.o rfl;simp only[KX,true_and] at a0;rw[<-a0.1] at h9;exact h9
   have p:Hid (∀q,q∈c↔q<a.length/\sj (bE E a) q):=fun q=>by rw[D.o,b1.o]
   clear Z;go_wp2_with fail
   refine (wW wr h m a nb j x back E M l n c (fun b3 hp=>((p.o b3).1 hp).1) P.o U V (W.kept (J.trans s)) X b2.o).mono ?_;rintro e w2 ⟨la,lc,b4,rfl,a1,b5,a2,a3,F⟩;have⟨b6,b7,b8⟩:=dK a1 a2 a3;clear a1 a2 a3 A B C;go_wp2
   go_ret
   exact⟨la,lc,b4,c,rfl,b6.o,b5,b7.o,p.o,b8.o,J.trans (s.trans F)⟩
  have d6:(i:Int)<(a.length:Int):=by omega
  go_wp2_with fail
  refine (pg wr h m a nb j x back E M i Z U V (W.kept (J.trans s)) X).mono ?_;rintro e w2 ⟨a4,size,rfl,hD,d7,F⟩;have HD:=Kz hD;obtain⟨t,v⟩:=aj (mP a4);have HI:Hid ((prog.info? 122).map (·.size)=some t.size):=by rw[v,eU];exact Tryz.ow
  have b9:Hid ((Array.replicate 60 (Value.int .i64 0)).size=t.size):=by show _=_;rw[v,eU];simp
  have c0:Hid (t.all (·.oneCell')=true):=by rw[v];exact oI a4
  obtain⟨d,Q⟩:=aj (w2.alloc (.cells t 122));have kA:K_ wr d:=by rw[Q];exact F.trans (ag _ _)
  rw[<-v];have c1:=Kz Q;have a5:=Kz (ai O.o kA);have KA:=s.trans kA;clear v Q hD A B C F O;go_upto_region 6 with (rw (transparency:= .default) [z60];refine lQ rfl 122 (.tmp 5) (.tmp 17) rfl _ t rfl rfl HI.o b9.o c0.o ?_)
  rw[<-c1.o];by_cases G:size=0
  ·have d8:¬((0:Int)<(size:Int)):=by omega
   have p:Hid (∀q,q∈c↔q<i+1/\sj (bE E a) q):=fun q=>by
    rw[D.o];constructor
    ·rintro⟨R,f⟩;exact⟨by omega,f⟩
    ·rintro⟨R,a6,f⟩;by_cases e:q=i
     ·subst e;exact Lv f (HD.o.no G a6)
     ·exact⟨by omega,a6,f⟩
   clear G;go_wp2
   go_roundw
   case rel=>exact⟨i+1,c,l,n,by omega,by go_num,rfl,by omega,a5,P,p,KA⟩
   case measure=>simp[intOf];omega
  have d9:(0:Int)<(size:Int):=by omega
  have p:Hid (∀q,q∈c++ [i]↔q<i+1/\sj (bE E a) q):=fun q=>by
   rw[JZ,JY,D.o];constructor
   ·rintro (⟨R,f⟩|rfl)
    ·exact⟨by omega,f⟩
    ·exact⟨by omega,size,(HD.o.yes G).1⟩
   ·rintro⟨R,f⟩;by_cases e:q=i
    ·exact .inr e
    ·exact .inl ⟨by omega,f⟩
  have c2:Hid ((c++ [i]).Nodup):=by
   show (c++ [i]).Nodup;rw[List.nodup_append];exact⟨P.o,by simp,fun e0 ha b hb e=>by rw[JY] at hb;rw[e,hb] at ha;have:=((D.o i).1 ha).1;omega⟩
  clear G;obtain⟨ic,c3,c4,c5,c6⟩:=info_parts Tryz.Bw;have S:K_ d (d.alloc (.cells #[.int .i64 (i:Int)] 3)):=ag _ _;have a7:=Kz (ai a5.o S);have a8:=Kz (KA.trans S);have c7:k.heap.size<=(d.alloc (.cells #[.int .i64 (i:Int)] 3)).heap.size:=a8.o.size;have c8:Hid (∀H u,([.int .i64 (i:Int)]:List LQ)[H]? =some u->(d.alloc (.cells #[.int .i64 (i:Int)] 3)).cell? ((⟨d.heap.size,0,none⟩:Addr).add H)=some u):=fun H u I=>by rw[KZ];exact Xz d #[.int .i64 (i:Int)] 3 H u I
  have c9:Hid (∀u∈([.int .i64 (i:Int)]:List LQ),u.oneCell'=true):=fun u I=>by simp only[Lb,Lc,or_false] at I;subst I;rfl
  clear S;go_wp2_with (at_builtin;refine wpList_append_own _ rfl (.tmp 21) (.tmp 23) 52 rfl k.heap.size 3 ic _ 1 8 underlying52 c3 c4 c5 c6 rfl (by decide) (.slice l c.length n) c.length (c.map ig) rfl a7.o ⟨d.heap.size,0,none⟩ 1 1 [.int .i64 (i:Int)] rfl rfl c8.o c9.o (by unfold maxLen;omega) (by omega) c7 ?_;intro v' w6 T b0 _;have KP:=aG a8.o (JP _) a7.o b0;have d0:=Kz T;obtain⟨d1,d2,rfl⟩:=ax T;clear T b0)
  go_roundw
  case rel=>exact⟨i+1,c++ [i],d1,d2,by omega,by go_num,by rw[KS];rfl,by rw[KS];simp;omega,Kz (by rw[KS,LA];exact d0.o),c2,p,KP⟩
  case measure=>simp[intOf];omega
theorem zB{R:Nat->Nat->Prop}{t:Nat}:∀n,1<=n->aR R n t t->∃m,jm R t m:=by
 intro n
 induction n using Nat.strongRecOn with
 | ind n ih=>
  intro f h;by_cases e:∃m,1<=m/\m<n/\aR R m t t
  ·obtain⟨m,b,c,d⟩:=e;exact ih m c b d
  ·exact⟨n,f,h,fun m b c d=>e ⟨m,b,c,d⟩⟩
theorem Ao{E:LK->LK->Prop}{a names:List LK}(e:gB E a)(v:∀s∈a,s∈names){l cs:List Nat}(r:∀q,q∈cs↔q<a.length/\sj (bE E a) q)(h:∀p,p∈l↔p<a.length/\mJ (bE E a) cs p)(w:l.Pairwise (· < ·)):iK E names (l.map (nameOf a)):=by
 refine⟨?_,fun s=>?_⟩
 ·unfold iI;rw[List.pairwise_map];exact w.imp_of_mem fun {p q} b c x=>by
   have d:=((h p).1 b).1;have i:=((h q).1 c).1;rw[iP d,iP i];exact (e.less d i).2 x
 ·rw[Ku];constructor
  ·rintro⟨p,b,rfl⟩;obtain⟨d,j,y,n,f⟩:=(h p).1 b;obtain⟨i,m,I,A,_⟩:=(r j).1 y;rw[iP d];obtain⟨B,C⟩:=oH f d;obtain⟨J,D⟩:=oH A B;obtain⟨k,rfl⟩:∃k,m=k+1:=⟨m-1,by omega⟩;exact⟨v _ (J_ d),a[j],n,C,k,D⟩
  ·rintro⟨_,j,n,f,m,t⟩;obtain⟨K,F,_⟩:=t.first
   obtain⟨q,c,rfl⟩:=e.place F;have G:∃(p:Nat) (b:p<a.length),a[p]=s:=by
    cases n with
    | zero=>exact⟨q,c,f.zero.symm⟩
    | succ n=>
     obtain⟨L,H,_⟩:=f.first
     exact e.place H
   obtain⟨p,b,rfl⟩:=G;refine⟨p,(h p).2 ⟨b,q,(r q).2 ⟨c,zB (m+1) (by omega) (e.back c c t)⟩,n,e.back b c f⟩,iP b⟩
def EN(Kq:List Qq)(Kk:List LK)(sl:List Qz)(w w':LP)(e:Ending):Prop:=
 ∃(da:LM) (ns:List LK),e= .returned (.slice da ns.length ns.length)/\jg w' w.heap.size w'.heap.size da ns/\iX Kq Kk sl ns/\K_ w w'
theorem xx(w:LP)(a:LM)(O:Nat)(d:List Qq)(C:LM)(D:Nat)(Kk:List LK)(E:LM)(P:Nat)(c:List Qz)(hl:d.length<=1048576)(Q:∀s∈d,s.Fits)(c7:Kk.length<=maxLen)(c8:Kk.length<=D)(d0:∀s∈Kk,s.size<=maxLen)(d1:c.length<=1048576)(d2:∀r∈c,r.texts.length<=1048576)(hS:bN w a d)(F:Strs w C Kk)(hG:bD w E c)(d3:fT w):
  Calls prog 11 #[.agg #[.slice a d.length O],.agg #[.slice C Kk.length D,.slice E c.length P]] w fun e w'=>EN d Kk c w w' e:=by
 have l:K_ w ((w.alloc (.cells #[.slice a d.length O] 25)).alloc (.cells #[.slice C Kk.length D,.slice E c.length P] 29)):=(ag _ _).alloc _;go_enter func11,ntmps11
 go_wp2_with fail
 refine (pJ _ a O d C D Kk E P c hl Q c7 c8 d0 d1 d2 (hS.kept l) (F.kept l) (hG.kept l) (d3.kept l)).mono ?_;rintro e w1 ⟨R,d4⟩;have S:=l.trans R;rcases d4 with⟨b0,rfl⟩|⟨T,b1,U,wz,bb,m,mx,V,g1,dc,f,ws,b2,rfl,kz,hB,W,d5,X,b3,b4⟩
 ·have d6:=Kz b0;clear b0 R l;go_wp2
  go_ret
  exact⟨none,[],rfl,.inl rfl,⟨JR _,.inr ⟨fun h=>d6.o ⟨h.1,h.2.1,h.good.asc⟩,rfl⟩⟩,S⟩
 have Y:=Kz (X.trans (rO T b1 W b3 b4));have⟨b5,HB,Z,a0⟩:=lg X hB W T;clear b1 U kz X b3 b4 R l hB W T;cases b2
 ·go_wp2
  go_ret
  exact⟨none,[],rfl,.inl rfl,⟨JR _,.inr ⟨fun h=>(by have h2:=Y.o.2 h;cases h2),rfl⟩⟩,S⟩
 have a1:Hid (Qk V=c):=b5.o.1 rfl;have b6:Hid (gJ d Kk c):=Y.o.1 rfl;clear b5 Y;have a2:=HB.o.len (gG a0.o);go_wp2_with fail
 refine (rC HB.o Z.o (aZ a0.o) d5 a2).mono ?_;rintro e w2 ⟨mo,b7,g,i,rfl,G,H,hM,k2⟩;have d7:Hid ((fun x y=>y∈i x)=aS (Q_ d) (Qj c)):=by
  show _=_
  funext x y
  rw[H.iff,<-a1.o,nA Z.o (by rw[a1.o];exact b6.o.asked)];simp
 have I:Hid (∀s,i s≠[]->s∈V.map (·.r.name)):=fun s j=>by
  obtain⟨y,hy⟩:=List.exists_mem_of_ne_nil _ j;obtain⟨_,t,n,hn,_⟩:=(H.iff s y).1 hy;rw[<-hn];exact Ku.2 ⟨t,n,rfl⟩
 have b8:Hid (∀s,i s≠[]->s.size<=20):=fun s j=>by
  obtain⟨t,n,rfl⟩:=Ku.1 (I.o s j);obtain⟨g2,U,_⟩:=(Z.o.good.good t.r (Le (f:=fun t:Zx=>t.r) n)).act;exact (aZ a0.o _ _ U).2.2.1
 have d8:Hid (si w2 mo (fun s=>i s≠[]) i):=by
  obtain⟨d9,e0,hN,e1,Q,hh⟩:=G.map;refine⟨⟨d9,e0,by omega,e1,fun s j=>?_,hh⟩,fun s h=>h⟩;obtain⟨va,vc,hg⟩:=ax (G.row s);have e2:=G.row s;obtain⟨e3,c9,e4,e5⟩:=aX e2;exact⟨e3,c9,by rw[Q s j,e4],e5⟩
 have e6:Hid (∀s,(i s).length<=1000000):=fun s=>by have:=H.len s;omega
 clear G H;go_wp2_with fail
 refine (tC w2 mo _ i (V.map (·.r.name)) I.o (by rw[Lm];exact a2) b8.o e6.o d8.o).mono ?_;rintro e p ⟨q,v,b,J,m,b7,e7,back,rfl,a3,A,hV,F,e8,b9⟩;have e9:b.length<=60:=by
  refine JS (List.Nodup.length_le_of_subset ?_ (fun x hx=>I.o x ((A x).1 hx))) (by rw[Lm];exact a2);exact a3.imp fun {a b2} f0=>dA f0
 have f1:Hid (gB (fun x y=>y∈i x) b):=⟨a3,fun x y c0=>(A x).2 (fun e=>by rw[e] at c0;cases c0)⟩;have f2:Hid (∀s∈b,s.size<=1048576):=fun s j=>by have:=b8.o s ((A s).1 j);omega
 have HR:=Kz F;have f3:Hid (∀s∈b,s∈c.map (·.name)):=fun s j=>by
  have h:=I.o s ((A s).1 j);rw[<-a1.o];obtain⟨t,n,rfl⟩:=Ku.1 h;exact Ku.2 ⟨t.r,Le (f:=fun t:Zx=>t.r) n,rfl⟩
 obtain⟨W2,B⟩:=aj (p.alloc (.cells #[.slice q b.length v,.slice (some ⟨J,0,none⟩) b.length b.length,.slice (some ⟨m,0,none⟩) b.length b.length] 68));have a4:K_ p W2:=by rw[B];exact ag _ _
 obtain⟨xb,a5⟩:=aj p.heap.size;have L:Hid (∀u,K_ W2 u->u.cell? ⟨xb,0,none⟩=some (.slice q b.length v)/\u.cell? ⟨xb,1,none⟩=some (.slice (some ⟨J,0,none⟩) b.length b.length)/\u.cell? ⟨xb,2,none⟩=some (.slice (some ⟨m,0,none⟩) b.length b.length)):=fun u a6=>by
  have z1:p.heap.size<W2.heap.size:=by rw[B];simp
  have h:=Xz p #[.slice q b.length v,.slice (some ⟨J,0,none⟩) b.length b.length,.slice (some ⟨m,0,none⟩) b.length b.length] 68;rw[<-B] at h;rw[a5];exact⟨(a6.cell z1).trans (h 0 _ rfl),(a6.cell z1).trans (h 1 _ rfl),(a6.cell z1).trans (h 2 _ rfl)⟩
 have c1:=Kz (hV.kept a4);have f4:=Kz (b9.trans a4);have⟨f5,f6⟩:=aH B a5;clear a3 A hV F b9 a4 B a5;go_upto_region 5 with fail
 rw[<-f5.o,<-f6.o];refine bf 4 L.o fun wd KD a7=>?_
 refine af 0 a7 ?_;refine af 1 a7 ?_;refine ak 2 (fun K k=>?_);go_simp
 go_at_call 36
 refine (EO wd q v b J m e7 back _ b7 e9 e8 (c1.o.kept KD) HR.o).mono ?_;rintro e w3 ⟨pa,pc,M,cs,rfl,c2,f7,c3,c4,a8,k3⟩;have N:=KD.trans k3;have f8:=Kz c2;have f9:Hid (iK (fun x y=>y∈i x) (c.map (·.name)) (M.map (nameOf b))):=Ao f1.o f3.o c4 a8 c3;have g0:Hid (∀a9∈M,a9<b.length):=fun a9 hp=>((a8 a9).1 hp).1
 clear c2 a8 c3 c4;dsimp only;refine ae k (fun _=>L.o _ N) ?_;clear k K a7;refine ak 3 (fun K k=>?_);go_simp
 go_at_call 35
 refine (Bi w3 q v b _ _ rfl rfl pa pc M g0.o (by omega) (by omega) f2.o (c1.o.kept N).names f8.o).mono ?_;rintro e w4 ⟨da,rfl,hT,k4⟩;have K4:=N.trans k4;have HT:=Kz hT;have c5:=Kz (f4.o.trans N);clear hT;dsimp only;refine ae k (fun _=>L.o _ K4) ?_;clear k K;refine ah 4 (fun K k=>?_);go_simp
 refine ae k (fun h=>Lv rfl h) ?_;clear k K;refine aB ?_;clear L HR;go_wp2
 go_ret
 have c6:=S.trans k2;refine⟨da,M.map (nameOf b),by rw[Lm];rfl,HT.o.mono (JS c6.size c5.o.size) (JP _),⟨by rw[Lm];exact f7,.inl ⟨b6.o,by rw[<-d7.o];exact f9.o⟩⟩,c6.trans (c5.o.trans k4)⟩
theorem Bn(w:LP)(a:LM)(c:Nat)(l:List LK)(i:Nat)(x:LK)(p:i<=l.length)(q:l.length<=1048576)(d:Strs w a l):
  Calls prog 9 #[.slice a i c,.string x] w fun e w'=>Says e (x∈l.take i)/\w'=w:=by
 have f:(l.take i).length=i:=by rw[Kt];omega
 have h:=ze w a c (l.take i) x (by omega) (fun k r=>by
  obtain⟨b,o,e,j,m⟩:=d k (by omega);have n:(l.take i).getD k ByteArray.empty=l.getD k ByteArray.empty:=by simp only[List.getD,List.getElem?_take];rw[Lt (by omega)]
  exact⟨b,o,e,j,by rw[n];exact m⟩)
 rw[f] at h;exact h
theorem FP(w:LP)(a:LM)(b6:Nat)(X:List UInt8)(hB:BytesAt w a X)(e8:X.length<=b6)(c9:fT w):
  Calls prog 3 #[.slice a X.length b6] w fun e w'=>e= .returned (.bool true)/\K_ w w':=by
 by_cases h0:(1048576:Int)<(X.length:Int)
 ·go_enter func3,ntmps3
  go_wp2
  go_ret
  exact⟨rfl,K_.refl _⟩
 go_enter func3,ntmps3
 go_wp2_with fail
 refine (vL _ a b6 X hB e8 (by omega)).mono ?_;rintro e w1 ⟨j,k,L,n,p,q,r,Kk,h,rfl,hL,d0,hG,N,k1⟩;obtain⟨O,Y⟩:=aj ((w1.alloc (.cells #[.slice j L.length k] 25)).alloc (.cells #[.slice n Kk.length p,.slice q h.length r] 29));obtain⟨wb,b2⟩:=aj w1.heap.size;obtain⟨P,b7⟩:=aj (w1.heap.size+1);have kA:K_ w1 (w1.alloc (.cells #[.slice j L.length k] 25)):=ag _ _;have Z:K_ (w1.alloc (.cells #[.slice j L.length k] 25)) O:=by rw[Y];exact ag _ _
 have d1:=Kz ((k1.trans kA).trans Z);have e9:O.heap.size=w1.heap.size+2:=by rw[Y];simp
 have Q:Hid (∀u,K_ O u->u.cell? ⟨wb,0,none⟩=some (.slice j L.length k)/\u.cell? ⟨P,0,none⟩=some (.slice n Kk.length p)/\u.cell? ⟨P,1,none⟩=some (.slice q h.length r)/\wb<u.heap.size/\P<u.heap.size):=fun u C=>by
  have l:=C.size;have a0:=Xz (w1.alloc (.cells #[.slice j L.length k] 25)) #[.slice n Kk.length p,.slice q h.length r] 29;rw[<-Y] at a0;simp only[KR] at a0;rw[<-b7] at a0;refine⟨(C.cell (by omega)).trans ((Z.cell (by rw[b2];simp)).trans ?_),(C.cell (by omega)).trans (a0 0 _ rfl),(C.cell (by omega)).trans (a0 1 _ rfl),by omega,by omega⟩;rw[b2];exact Xz w1 _ _ 0 _ rfl
 have a1:=Kz ((hG.kept kA).kept Z).nodes;have f:=Kz ((N.kept kA).kept Z);have b8:=Kz (c9.kept d1.o);have a2:=Kz (rX (by omega) d0);have a3:Hid (∀s∈Kk,s.size<=maxLen):=fun s hs=>by have:=N.rz s hs;unfold maxLen;omega
 have a4:Hid (∀a5∈h,a5.texts.length<=1048576):=fun a5 hr=>by have:=(N.sb a5 hr).texts;omega
 have h1:=N.rn;have h3:=N.sn;go_upto_region 4 with fail
 rw[<-Y,<-b7,<-b2];clear Y b2 b7 d0 hG N k1 kA Z e9 c9 hB;have d2:Hid (∀a6 nm,ByteArray.size nm<=301->K_ O a6->Calls prog 10 #[.agg #[.slice j L.length k],.agg #[.slice n Kk.length p,.slice q h.length r],.string nm] a6 fun e w'=>xY L Kk h nm a6 w' e):=fun a6 nm l b3=>wh a6 j k L n p Kk q r h nm (by unfold maxLen;omega) (by omega) a2.o (by unfold maxLen;omega) f.o.rl a3.o (by omega) a4.o (a1.o.kept b3) (f.o.rs.kept b3) (f.o.rr.kept b3) (b8.o.kept b3)
 obtain⟨D,E,F,G,H⟩:=Q.o O (K_.refl _);go_wp2_with fail
 refine (u_ O j k L n p Kk q r h (by omega) a2.o (by unfold maxLen;omega) f.o.rl a3.o (by omega) a4.o a1.o f.o.rs f.o.rr b8.o).mono ?_;rintro e w2 ⟨la,h4,rfl,d3,b9,R⟩;have⟨d4,c0⟩:=aH d3.strs b9;have h5:=b9.len;clear d3 b9 D E F G H;obtain⟨D,E,F,G,H⟩:=Q.o w2 R;go_wp2_with fail
 refine (vg w2 j k L n p Kk q r h (by omega) a2.o (by omega) a3.o (by omega) a4.o (a1.o.kept R) (f.o.rr.kept R) (f.o.rs.kept R)).mono ?_;rintro e w3 ⟨⟨f0,f1,c,rfl,d5,d6⟩,k3⟩;obtain rfl:=c0.o.one d6;have K3:=R.trans k3;have c4:=Kz (d4.o.kept k3);have d7:=Kz d5;clear d5 d6 D E F G H d4;go_wp2_with fail
 refine (vK w3 la f0 _ f1 c (by omega) c4.o d7.o).mono ?_;rintro e w4 ⟨rfl,k4⟩;have K4:=K3.trans k4;have a7:=Kz (c4.o.kept k4);have b4:=Kz (AV c0.o);clear d7 c4 R k3 k4 K3;go_wp2
 go_loopg [6] c.length (fun gg x6 wr=>∃i:Nat,x6= .int .i64 (i:Int)/\i+gg=c.length/\K_ w4 wr)
 case atStart=>exact⟨0,rfl,by omega,K_.refl _⟩
 case round=>
  obtain⟨i,rfl,hi,I⟩:=hrel;have b5:=Kz I;have v:=K4.trans I;clear I;by_cases d8:(i:Int)<(c.length:Int)
  ·obtain⟨x,t⟩:=aj (c.getD i ByteArray.empty);obtain⟨S,hj⟩:=aj ((i+1) % c.length);obtain⟨c5,hy⟩:=aj (c.getD S ByteArray.empty);obtain⟨z,l⟩:=aj (c.getD 0 ByteArray.empty);have y:i<c.length:=by omega
   have f2:S<c.length:=by rw[hj];exact Nat.mod_lt _ (by omega)
   have h6:x.size<=301:=by
    obtain⟨a5,f3,h2⟩:=b4.o.run i y;have:=(f.o.sb a5 f3).name;rw[t,<-h2];omega
   have f4:Hid (∀ns,nC L Kk h x ns->c5∈ns):=fun ns hn=>by
    have J:=b4.o.wait i y ns (by rw[<-t];exact hn);rw[<-hj,<-hy] at J;exact J
   have f5:Hid (x∉c.take i):=by rw[t];exact b4.o.diff i y
   have h7:Op.bytesLess x.toList z.toList=false:=by
    have J:=b4.o.least i y;rw[<-t,<-l] at J;simpa[aP] using J
   obtain⟨T,lo,rfl,_,_⟩:=a7.o i y;have f6:=Kz a7.o;have a8:Hid (∀u,K_ wr u->u.cell? ⟨T,lo+i,none⟩=some (.string x)/\u.cell? ⟨T,lo+S,none⟩=some (.string c5)/\u.cell? ⟨T,lo,none⟩=some (.string z)/\T<u.heap.size/\u.cell? ⟨wb,0,none⟩=some (.slice j L.length k)/\u.cell? ⟨P,0,none⟩=some (.slice n Kk.length p)/\u.cell? ⟨P,1,none⟩=some (.slice q h.length r)/\wb<u.heap.size/\P<u.heap.size):=fun u C=>by
    have hS:=(a7.o.kept b5.o).kept C;obtain⟨b,o,e,hb,hc⟩:=hS i y;obtain⟨b',o',e',h8,f7⟩:=hS S f2;obtain⟨h9,i0,d9,i1,f8⟩:=hS 0 (by omega);simp only[KT,LG,and_true] at e e' d9;obtain⟨rfl,rfl⟩:=e;obtain⟨rfl,rfl⟩:=e';obtain⟨rfl,rfl⟩:=d9;obtain⟨c1,c2,c3,f9,g0⟩:=Q.o u (v.trans C);exact⟨by rw[t];exact hc,by rw[hy];exact f7,by rw[l];exact f8,hb,c1,c2,c3,f9,g0⟩
   have i2:IntKind.i64.wrap ((i:Int)+1)= (i:Int)+1:=by simp[IntKind.wrap,IntKind.bits,IntKind.signed];omega
   have i3:((i:Int)+1).tmod (c.length:Int)= (S:Int):=by rw[Int.tmod_eq_emod_of_nonneg (by omega),hj,Int.natCast_emod];simp
   have i4:¬c=[]:=fun e=>by rw[e] at y;simp at y
   have i5:(S:Int)<(c.length:Int):=by omega
   have i6:(0:Int)<(c.length:Int):=by omega
   clear t hy l hj;go_upto_region 10 with fail
   refine bf 36 a8.o fun wd KD d=>?_
   refine au 0 d ?_;refine af 4 d ?_;refine af 5 d ?_;refine au 7 d ?_;refine au 11 d ?_;refine ak 6 (fun K m=>?_);go_simp
   go_at_call 10
   refine (d2.o wd x (by omega) (v.trans KD)).mono ?_;rintro e w6 ⟨va,vs,rfl,e0,U,M⟩;have g1:=Kz e0.strs;have g2:=Kz (f4.o vs U);have i7:=U.len;have V:=KD.trans M;clear e0 U M;dsimp only;refine ae m (fun _=>a8.o _ V) ?_;clear m K d;have d:=a8.o _ V;refine ak 15 (fun K m=>?_);go_simp
   go_at_call 9
   refine (ze w6 va vs.length vs c5 (by omega) g1.o).mono ?_;rintro e w7 ⟨A,a9⟩;rcases A.cases with⟨rfl,_⟩|⟨rfl,b0⟩;rotate_left
   ·exact Lv g2.o b0
   rw[a9];clear a9 w7 A;dsimp only;refine ae m (fun _=>a8.o _ V) ?_;clear m K;refine au 16 d ?_;refine bJ 20 ?_ d ?_ ?_;rotate_left
   ·intro u hu;try dsimp only at hu
    go_simp
    rw[Lt (by omega)]
   try simp only[upP]
   refine au 21 d ?_;refine ak 25 (fun K m=>?_);go_simp
   go_at_call 9
   refine (Bn w6 (some ⟨T,lo,none⟩) c.length c i x (by omega) (by omega) (f6.o.kept (b5.o.trans V))).mono ?_;rintro e w7 ⟨A,a9⟩;rcases A.cases with⟨rfl,b0⟩|⟨rfl,_⟩
   ·exact Lv b0 f5.o
   rw[a9];clear a9 w7 A;dsimp only;refine ae m (fun _=>a8.o _ V) ?_;clear m K;refine au 26 d ?_;refine af 30 d ?_;refine af 31 d ?_;refine af 32 d ?_;refine bJ 33 ?_ d ?_ ?_;rotate_left
   ·intro u hu;try dsimp only at hu
    go_simp
    rw[Lt (by omega)]
   try simp only[upP]
   refine af 34 d ?_;refine af 35 d ?_;refine ah 36 (fun K m=>?_);go_simp
   refine ae m (fun J=>Lv rfl J) ?_;clear m K;refine aB ?_;go_wp2
   go_roundg (gk-1)
   case measure=>omega
   case rel=>exact⟨i+1,by go_num,by omega,b5.o.trans V⟩
  ·obtain⟨D,E,F,G,H⟩:=Q.o wr v;go_wp2_with fail
   refine (xx wr j k L n p Kk q r h (by omega) a2.o (by unfold maxLen;omega) f.o.rl a3.o (by omega) a4.o (a1.o.kept v) (f.o.rs.kept v) (f.o.rr.kept v) (b8.o.kept v)).mono ?_;rintro e w5 ⟨sa,ts,rfl,e1,c6,I⟩;have⟨e3,c7⟩:=aH e1.strs c6;have i8:=c6.len;have W:=v.trans I;clear e1 c6 D E F G H;obtain⟨D,E,F,G,H⟩:=Q.o w5 W;go_wp2_with fail
   refine (xg w5 j k L n p Kk q r h (by omega) a2.o (by omega) a3.o (by omega) a4.o (a1.o.kept W) (f.o.rr.kept W) (f.o.rs.kept W)).mono ?_;rintro e w6 ⟨⟨g3,g4,B,rfl,e4,U⟩,M⟩;obtain rfl:=c7.o.one U;have K6:=W.trans M;have e5:=Kz e4;have c8:=Kz (e3.o.kept M);clear e4 U D E F G H e3;go_wp2_with fail
   refine (vK w6 sa g3 _ g4 B (by omega) c8.o e5.o).mono ?_;rintro e w7 ⟨rfl,k7⟩;have e6:=Kz (d1.o.trans (K6.trans k7));have g5:=Kz (c8.o.kept k7);have g6:=Kz (a7.o.kept (b5.o.trans ((I.trans M).trans k7)));have e7:=Kz (Cx c0.o c7.o);clear e5 c8 c7 I M k7 W K6 v a7 Q d2 d8 hi;go_wp2
   go_loopg [8] c.length (fun gg x8 wr=>∃i:Nat,x8= .int .i64 (i:Int)/\i+gg=c.length/\wr=w7)
   case atStart=>exact⟨0,rfl,by omega,rfl⟩
   case round=>
    obtain⟨i,rfl,hi,rfl⟩:=hrel;by_cases d8:(i:Int)<(c.length:Int)
    ·obtain⟨x,t⟩:=aj (c.getD i ByteArray.empty);obtain⟨T,lo,rfl,i9,g7⟩:=g6.o i (by omega);have g8:Hid (x∈B):=by rw[t];exact e7.o.1 i (by omega)
     rw[<-t] at g7;clear t;go_wp2_with fail
     refine (ze _ sa B.length B x (by omega) g5.o).mono ?_;rintro e w8 ⟨A,rfl⟩;rcases A.cases with⟨rfl,_⟩|⟨rfl,b0⟩;rotate_left
     ·exact Lv g8.o b0
     clear A;go_wp2
     go_roundg (gk-1)
     case measure=>omega
     case rel=>exact⟨i+1,by go_num,by omega,rfl⟩
    ·have hq:c.length=0↔B.length=0:=by rw[Kh,Kh];exact e7.o.2
     by_cases l:c.length=0
     ·have b1:=hq.1 l;have g9:((c.length:Int) == 0)=true:=by simp[l]
      have e2:((B.length:Int) == 0)=true:=by simp[b1]
      clear hq l b1;go_wp2
      go_ret
      exact⟨rfl,e6.o⟩
     ·have b1:¬B.length=0:=fun e=>l (hq.2 e)
      have g9:((c.length:Int) == 0)=false:=by simpa using l
      have e2:((B.length:Int) == 0)=false:=by simpa using b1
      clear hq l b1;go_wp2
      go_ret
      exact⟨rfl,e6.o⟩
open Go.ChangeShapes Go.WideShapes Go.ChangeAt Go.RowKit
def laid3 {H : Type} : List (String × DataW H) := [("math/bits.deBruijn32tab", Rows.laid_math_bits_deBruijn32tab), ("math/bits.deBruijn64tab", Rows.laid_math_bits_deBruijn64tab), ("internal/strconv.uint64pow10", Rows.laid_internal_strconv_uint64pow10)]
theorem Tryz.gTab : Tryz.prog.globalNamed "math/bits.deBruijn64tab" = some 3 := by kernel_rfl
theorem Tryz.tTab :(prog.globals[3]?).map (·.type)=some 268:=by kernel_rfl
theorem FR(os:Os)(args:Array LQ):laidMetH prog laid3 ((World.doorLaid prog 400 os).forCall (fun _ _=>0) ⟨#[],args,[]⟩).memory:=
 laidMetH_of_parts3 (fuel:=8) (laidMet_of_run' 8 (by kernel_rfl) (by kernel_rfl)) (by kernel_rfl) (by kernel_rfl)
theorem Bv{W:LP}(h:laidMetH prog laid3 W):mW W:=by
 rw[MakeChecks.laidMetH_plain _ _ _ (by kernel_rfl)] at h;obtain⟨y,⟨A,B,C,D,E,F,G,H,I,J,⟨K,L,j,M,N,O,c,k,m,n,_,_⟩,_⟩,_,_⟩:=h;obtain rfl:=Lf (Tryz.gTab.symm.trans c);obtain rfl:=Lf (Tryz.tTab.symm.trans k);obtain⟨p,P,rfl,d,Q,q,r⟩:=DataW.trod_array underlying268 n;have s:prog.cellsOf 5=1:=by kernel_rfl
 have e:=r 15 (by decide);simp only[Prod.mk.injEq,Rows.laid_math_bits_deBruijn64tab,DataW.agg.injEq] at d;have f:15<p.length:=by rw[q];decide
 have a:=congrArg (fun l=>l[15]?) d.1;simp only[List.getElem?_map,JV f,Option.map_some] at a;rw[JV f] at e;obtain⟨t,i,v,_⟩:=DataW.trod_int underlying5 e;have w:t=4:=by
  rw[v] at a;simpa using a.symm
 subst w;have b:=World.var?_cell c m 15;rw[s] at i;have x:j.toList[15]? =some (.int .u8 4):=by
  have:=congrArg (fun l=>l[0]?) i;simpa[List.getElem?_take,List.getElem?_drop] using this
 rw[<-Array.getElem?_toList,x] at b;exact⟨World.block_lt_of_cell? _ _ b,b⟩
open Go.ChangeShapes Go.WideShapes Go.ChangeAt Go.RowKit Go.Joins Go.ChangeMaps
theorem Tryz.JO :ownKnob prog.godebug=none:=by kernel_rfl
theorem Tryz.Fa :laidOutB prog=true:=by kernel_rfl
theorem w_{w:LP}(h:mW w):fT w:=fun W give a b l k c d e f=>Cy W give a b l c d e f (h.kept k)
theorem Af(os:Os)(r:os.Started)(H:Type)(enc:TypeId×LQ->H):
  ReturnsInHanded {} Tryz.checked os 3 .any (fun w args=>(Rows.fnCircleSpec.pre enc prog f3 [] false w args/\laidMetH prog laid3 w)/\sizedMet enc prog f3 (OpenSpec.ofChange Rows.fnCircleSpec) false w args)
   (Rows.fnCircleSpec.post enc prog f3 false true false false):=by
 refine returnsInHanded_of_change_and (C:=Tryz.checked) (X:=fun w _=>laidMetH prog laid3 w) (fun _ _ _ s h=>h.of_heap s) Tryz.JO r (by kernel_rfl) func3
  (ChangeSpec.witness_shaped (enc:=enc) (C:=Tryz.checked) (os:=os) (X:=fun w _=>laidMetH prog laid3 w) false (World.doorLaid prog 400 os) #[.slice none 0 0] 8 rfl (World.shaped_of_RefB (by kernel_rfl) (by kernel_rfl)) (by kernel_rfl) (by kernel_rfl) (by kernel_rfl) (FR os _)) ?_
 intro W base args y T U c d _ _ A _;have e:∀(j:Nat) t v,f3.params[j]? =some t->args[j]? =some v->Value.okWide prog W .any base t v:=c;have f:=d;obtain⟨B,V,i,D,rfl,Y,Z⟩:=d;have k:DataW.TrodAll enc prog W 0 (fun _=>true) true f3.params.toList args.toList y B:=i;rw[params3] at k e;obtain⟨l,a0,d0,a1,E,q0,a2,rfl,rfl,m,F⟩:=trodAll_cons k;obtain⟨rfl,rfl,rfl⟩:=trodAll_nil F;obtain rfl:args= #[l]:=by cases args;simp_all
 obtain⟨rfl,rfl⟩:=trodVars_none D;have b:=m;have G:∀x∈E,x.block<W.heap.size:=by obtain⟨I,J⟩:=b;exact DataW.trod_lt I _ _ _ J
 obtain⟨K,L,M,rfl⟩:=okWide_slice underlying22 (e 0 22 l rfl rfl);obtain⟨a3,N⟩:=m;obtain⟨a,n,p,O,P,hl,Q⟩:=Ed N;have R:Value.slice K L M= .slice a n.length p:=by simpa[Value.cells] using O
 rw[R] at b f⊢;clear i c;refine (FP W a p n P Q (w_ (Bv A))).mono fun a4 W' ⟨S,q⟩=>?_
 subst S;exact⟨_,rfl,_,_,_,[],_,[],f,trodAll_mk1 (shut_bool underlying4 _),(trodAll_cons_mk (Below.trod Tryz.Fa (by kernel_rfl) (of_decide_eq_true (by kernel_rfl)) b q G) trodAll_mk0),rfl,Below.frame q _,fun h=>by cases h⟩
theorem Ch :Rows.FnCircleSaid:=
 OpenClaim.holds_of_wide 3 f3 rfl rfl rfl rfl rfl rfl rfl ⟨rfl,rfl,rfl,rfl,rfl⟩ rfl rfl rfl rfl rfl (by kernel_rfl) func3 (by kernel_rfl)
  (of_decide_eq_true (by kernel_rfl)) (by unfold Func.isWrapper;first | (rw[Lt (by decide+kernel)];kernel_rfl) | (rw[Lu (by decide+kernel)];exact⟨rfl,rfl⟩))
  (fun a b H d _=>Af a b H d)
theorem circDCardHolds :Rows.FnCircleCardSaid:=
 Claim7.holds_tied_plain_at .later [] [.data,.data,.data] true Rows.fnCircleCard.stood.harness Rows.fnCircleCard.stood.looks
  Ch (fun _ h=>by cases h) (by kernel_rfl) (fun _ h=>by cases h) fnCircle_row_tie rfl ⟨rfl,rfl⟩ (by kernel_rfl) rfl
  (fun f b c d=>by
   obtain rfl:f=3:=Lf ((show prog.funcNamed Rows.fnCircleRow.func=some 3 by kernel_rfl).symm.trans c) |>.symm;obtain rfl:b=f3:=(Lf (func3.symm.trans d)).symm;exact⟨by kernel_rfl,fun j t a=>by
    rw[params3] at a;have e:t∈[22]:=by simpa using Array.mem_of_getElem? a
    have i:([22].all fun u=>!prog.wantsStandIn u)=true:=by kernel_rfl
    exact (show prog.wantsStandIn t=false by simpa using List.all_eq_true.1 i t e)⟩)
  (by kernel_rfl)
