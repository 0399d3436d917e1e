import Derived.Test.YtbmhchdegdjfkaaGreatDoorKBTask
set_option maxRecDepth 100000
set_option maxHeartbeats 25600000
namespace Go.Proofs.YtbmhchdegdjfkaaGreatDoor
open Go.RowKit Go.Proofs.Tryz
variable {Kq : List Qq}
theorem gG(h:bn Kq 0):Kq.length<=60:=by
 rcases h with⟨_,h⟩|⟨_,_,h⟩|⟨_,_,_,h⟩|⟨_,_,_,_,h⟩|⟨h,_⟩
 ·cases h
 ·cases h
 ·cases h
 ·cases h
 ·omega
theorem Bh(h:bn Kq 0){k:Nat}(c:k<Kq.length):iM (Kq.getD k Qq.zero).name/\fU ⟨(Kq.getD k Qq.zero).cost,(Kq.getD k Qq.zero).steps⟩:=by
 rcases h with⟨_,h⟩|⟨_,_,h⟩|⟨_,_,_,h⟩|⟨_,_,_,_,h⟩|⟨_,d,_,e,_⟩
 ·cases h
 ·cases h
 ·cases h
 ·cases h
 ·refine⟨Classical.byContradiction fun b=>d ⟨k,c,b⟩,Classical.byContradiction fun b=>e ⟨k,c,b⟩⟩
theorem aZ(h:bn Kq 0):bT (Q_ Kq):=fun n A c=>by
 obtain⟨k,d,e,_,rfl⟩:=gP c;obtain⟨a,f⟩:=Bh h d;rw[e] at a;exact⟨f,a⟩
theorem gV(h:bn Kq 0):jC Kq:=fun y d s e=>by
 obtain⟨k,a,rfl⟩:=Kb d;have b:=(Bh h a).2;simp only[List.getD,JV a,Lx] at b;obtain⟨i,f,rfl⟩:=Kb e;have c:=iV (i:=(i:Int)) b (by omega) (by show (i:Int)<((Kq[k].steps.length:Nat):Int);omega);have j:stepOf ⟨Kq[k].cost,Kq[k].steps⟩ (i:Int)=Kq[k].steps[i]:=by simp[stepOf,List.getD,f]
 rw[j] at c;exact⟨by omega,fun x l=>by have:=(c.2 x l).2.1;omega⟩
structure tK (wr:LP) (xb:Nat) (Kk:List LK) (L:List Qz) (ra:LM) (rc:Nat) (d:LM) (dc:Nat):Prop where
 row:aC wr xb 29 2
 c0:wr.cell? ⟨xb,0,none⟩=some (.slice ra Kk.length rc)
 c1:wr.cell? ⟨xb,1,none⟩=some (.slice d L.length dc)
 rts:Strs wr ra Kk
 rns:bD wr d L
variable {Kk : List LK} {L : List Qz} {xb : Nat} {ra : LM}
theorem tK.kept{w w':LP}{b c:Nat}{d:LM}(h:tK w xb Kk L ra b d c)(k:K_ w w'):tK w' xb Kk L ra b d c:=
 ⟨h.row.kept k,(k.cell h.row.lt).trans h.c0,(k.cell h.row.lt).trans h.c1,h.rts.kept k,h.rns.kept k⟩
theorem tK.made{w:LP}{a b:Nat}{d:LM}(c:Strs w ra Kk)(e:bD w d L):tK (w.alloc (.cells #[.slice ra Kk.length a,.slice d L.length b] 29)) w.heap.size Kk L ra a d b:=
 ⟨aC.made w _ _,Xz w #[.slice ra Kk.length a,.slice d L.length b] 29 0 _ rfl,Xz w #[.slice ra Kk.length a,.slice d L.length b] 29 1 _ rfl,c.kept (ag _ _),e.kept (ag _ _)⟩
theorem tK.laid{W w':LP}{a e:Nat}{d:LM}{k:List LQ}(i:xb<W.heap.size)(l:aC w' xb 29 2)(q:w'.ownsRow W.heap.size 9 1 (.slice ra Kk.length a) Kk.length (Kk.map Value.string))(r:w'.ownsRow W.heap.size 40 7 (.slice d L.length e) L.length k)(s:aW w' (fun b=>W.heap.size<=b) k L):tK (w'.setCells xb 0 [.slice ra Kk.length a,.slice d L.length e]) xb Kk L ra a d e:=by
 have n:=JU w' xb 0 [.slice ra Kk.length a,.slice d L.length e] (l.row.there (o:=0) (m:=2) (JP _));refine⟨aC.sets _ _ l,n 0 _ rfl,n 1 _ rfl, ?_, ?_⟩
 ·have j:=aU (aU q (p:=⟨xb,0,none⟩) i (.slice ra Kk.length a)) (p:=⟨xb,1,none⟩) i (.slice d L.length e);obtain⟨t,v,f,h⟩:=aX j;simp only[KX,true_and] at f;rw[<-f.1] at h;exact h
 ·have j:=aU (aU r (p:=⟨xb,0,none⟩) i (.slice ra Kk.length a)) (p:=⟨xb,1,none⟩) i (.slice d L.length e);have w:=(s.set (c:=xb) (p:=0) (fun b x=>by omega) (.slice ra Kk.length a)).set (c:=xb) (p:=1) (fun b x=>by omega) (.slice d L.length e);obtain⟨_,t,v,f,h⟩:=aW.runs j w (K_.refl _);simp only[KX,true_and] at f;rw[<-f.1] at h;exact h.runs
theorem gD.but{w w':LP}{a:LM}{l:List LK}(h:gD w xb a l)(k:Xk xb (xb+1) w w'):gD w' xb a l:=fun i d=>by
 obtain⟨b,o,e,c,f,j⟩:=h i d;exact⟨b,o,e,JQ c k.size,f,by rw[Ke (w:=w) (k.block b c (by omega))];exact j⟩
theorem gD.owned{w:LP}{base:Nat}{t:TypeId}{a:LM}{c:Nat}{l:List LK}(h:w.ownsRow base t 1 (.slice a l.length c) l.length (l.map Value.string))(j:xb<base):gD w xb a l:=by
 rcases h.2 with⟨e,d⟩|⟨g,k,m,e,n,f,p,_,_,_⟩
 ·intro i b;rw[d] at b;exact aT b
 ·intro i b;simp only[KX] at e;obtain⟨rfl,_,rfl⟩:=e;refine⟨g,0,rfl,aO f,by omega, ?_⟩;have:=h.cells (g:=g) rfl i (.string (l.getD i ByteArray.empty)) (by simp[List.getD,b]);rw[KZ] at this;exact this
theorem Xk.sets{b c:Nat}{a:LP}{g:Nat}(d:b<=g)(h2:g<c):∀(vs:List LQ) (o:Nat) {u:LP},Xk b c a u->Xk b c a (u.setCells g o vs)
 | [],_,_,h=>h
 | v :: r,o,_,h=>by rw[World.setCells];exact Xk.sets d h2 r (o+1) (h.setCell (p:=⟨g,o,none⟩) d h2 v)
def gJ(Kq:List Qq)(Kk:List LK)(sl:List Qz):Prop:=bn Kq 0/\eO Kk/\sl.length<=Kq.length/\IC Kq Kk sl
structure Cn (Kq:List Qq) (Kk:List LK) (sl:List Qz) (L:List Qz) (bb:Bool) (gg:Nat):Prop where
 good:dB Kq L
 led:∃k,bO (Behind (W:=Q_ Kq) bA (Qj sl)) (doX (Q_ Kq)) (Qj (bV Kq Kk)) (Qj L) k
 fin:bb=false->AtEnd (Behind (W:=Q_ Kq) bA (Qj sl)) (Qj L)
 pot:gg=2*lu Kq L+ (if bb=true then 1 else 0)
theorem Cn.begin(a:bn Kq 0)(Kk:List LK)(b:List Qz):Cn Kq Kk b (bV Kq Kk) true (2*lu Kq (bV Kq Kk)+1):=
 ⟨gX (aZ a) Kk,⟨0,.here _⟩,fun h=>(by cases h),rfl⟩
theorem Cn.next{c a:List Qz}{d:List LK}{b:Bool}{e:Nat}(f:Cn Kq Kk c a true e)(i:eB (Q_ Kq) (Qj a) a d)(h:fV Kq (Qj c) (Qj (bV Kq Kk)) d a L d.length b):Cn Kq Kk c L b (2*lu Kq L+ (if b=true then 1 else 0))/\2*lu Kq L+ (if b=true then 1 else 0)<e:=by
 refine⟨⟨h.good,h.led,fun j=>?_,rfl⟩, ?_⟩
 ·subst j;exact (h.GX f.good i).2
 ·rw[f.pot];cases b with
  | true=>have:=h.yes rfl;simp only[if_true];omega
  | false=>rw[(h.no rfl).1];simp
theorem tT{G σ:Env}{n:LK}(h:G n=none):¬Behind (W:=Q_ Kq) bA G σ n:=fun c=>by
 obtain⟨_,g,_,a,_⟩:=c.2;rw[h] at a;cases a
theorem pU{G σ:Env}{n:LK}{r g:Qz}(c:σ n=some r)(d:G n=some g)(h:¬bA r g):¬Behind (W:=Q_ Kq) bA G σ n:=fun e=>by
 obtain⟨i,j,a,b,f⟩:=e.2;rw[c] at a;rw[d] at b;cases a;cases b;exact h f
theorem AQ{l:List Qz}{n:LK}{r:Qz}{j:Nat}{q:Int}(m:cO l)(b:j<l.length)(p:l.getD j Qz.zero=r)(d:Qj l n=some r)(h:CW l n q):q= (j:Int):=by
 rcases h with⟨k,c,s,a,t⟩|⟨_,a⟩
 ·rw[s];have e:l.getD k Qz.zero=l.getD j Qz.zero:=by rw[d] at a;rw[<-Lf a,p]
  simp only[List.getD,JV b,JV c,Lx] at e;have f:=congrArg Qz.name e;have i:=Ka.1 m;rcases Ls k j with h|h|h
  ·exact Lv f (dA (i k j c b h))
  ·rw[h]
  ·exact Lv f.symm (dA (i j k b c h))
 ·rw[d] at a;cases a
theorem nM(w:LP)(a:LM)(G:Nat)(f:List Qq)(ra:LM)(Q:Nat)(Kk:List LK)(d:LM)(dc:Nat)(l:List Qz)(l5:f.length<=1048576)(d3:∀y∈f,y.Fits)(f9:Kk.length<=1048576)(g0:∀s∈Kk,s.size<=maxLen)(g1:l.length<=1048576)(i8:∀x∈l,x.texts.length<=1048576)
  (hN:bN w a f) (hS:bD w d l) (hR:Strs w ra Kk):
  Calls prog 19 #[.agg #[.slice a f.length G],.agg #[.slice ra Kk.length Q,.slice d l.length dc]] w fun e w'=>IK e (gJ f Kk l)/\K_ w w':=by
 obtain⟨WB,a6⟩:=aj ((w.alloc (.cells #[.slice a f.length G] 25)).alloc (.cells #[.slice ra Kk.length Q,.slice d l.length dc] 29));have kB:K_ w WB:=by rw[a6];exact (ag _ _).alloc _
 have i9:WB.heap.size=w.heap.size+2:=by rw[a6];simp
 have Z:WB.cell? ⟨w.heap.size,0,none⟩=some (.slice a f.length G):=by rw[a6,K_.cell (w:=w.alloc (.cells #[.slice a f.length G] 25)) (ag _ _) (by simp)];exact Xz w _ _ 0 _ rfl
 have a0:WB.cell? ⟨w.heap.size+1,0,none⟩=some (.slice ra Kk.length Q):=by have:=Xz (w.alloc (.cells #[.slice a f.length G] 25)) #[.slice ra Kk.length Q,.slice d l.length dc] 29 0 _ rfl;rw[KR] at this;rw[a6];exact this
 have R:WB.cell? ⟨w.heap.size+1,1,none⟩=some (.slice d l.length dc):=by have:=Xz (w.alloc (.cells #[.slice a f.length G] 25)) #[.slice ra Kk.length Q,.slice d l.length dc] 29 1 _ rfl;rw[KR] at this;rw[a6];exact this
 have z0:w.heap.size<WB.heap.size:=by omega
 have S:w.heap.size+1<WB.heap.size:=by omega
 have HC:Hid (∀w',K_ WB w'->w'.cell? ⟨w.heap.size,0,none⟩=some (.slice a f.length G)/\w'.cell? ⟨w.heap.size+1,0,none⟩=some (.slice ra Kk.length Q)/\w'.cell? ⟨w.heap.size+1,1,none⟩=some (.slice d l.length dc)/\w.heap.size<w'.heap.size/\w.heap.size+1<w'.heap.size):=fun w' K=>⟨(K.cell z0).trans Z,(K.cell S).trans a0,(K.cell S).trans R,JQ z0 K.size,JQ S K.size⟩
 have C:=Kz kB;clear kB i9 Z a0 R;go_enter func19,ntmps19
 go_upto_region 1 with fail
 rw[<-a6];clear a6;obtain⟨Z,a0,R,_,_⟩:=HC.o _ (K_.refl _);go_wp2_with fail
 refine (fu _ a G f (by unfold maxLen;omega) d3 (hN.kept C.o)).mono ?_;rintro e w1 ⟨⟨c,rfl,hc⟩,k1⟩;clear Z a0 R z0 S;obtain⟨Z,a0,R,z0,S⟩:=HC.o _ k1;by_cases d4:c=0;rotate_left
 ·have l6:(c != 0)=true:=by simpa using d4
  have j0:Hid (¬bn f 0):=fun h=>d4 (hc.unique h)
  clear d4 hc;go_wp2
  go_ret
  exact⟨⟨false,rfl,by simp only[Bool.false_eq_true,false_iff];exact fun h=>j0.o h.1⟩,C.o.trans k1⟩
 subst d4;have T:=Kz hc;clear hc;go_wp2_with fail
 refine (iQ _ ra Q Kk (by unfold maxLen;omega) g0 (hR.kept (C.o.trans k1))).mono ?_;rintro e w2 ⟨e1,j1⟩;have K2:=k1.trans j1;clear Z a0 R z0 S;obtain⟨Z,a0,R,z0,S⟩:=HC.o _ K2;rcases e1.cases with⟨rfl,g2⟩|⟨rfl,g3⟩;rotate_left
 ·have j2:=Kz g3;clear g3 e1;go_wp2
  go_ret
  exact⟨⟨false,rfl,by simp only[Bool.false_eq_true,false_iff];exact fun h=>j2.o h.2.1⟩,C.o.trans K2⟩
 have HY:=Kz g2;clear g2 e1;by_cases g4:l.length<=f.length;rotate_left
 ·have j3:(f.length:Int)<(l.length:Int):=by omega
  go_wp2
  go_ret
  exact⟨⟨false,rfl,by simp only[Bool.false_eq_true,false_iff];exact fun h=>g4 h.2.2.1⟩,C.o.trans K2⟩
 have j3:¬(f.length:Int)<(l.length:Int):=by omega
 obtain⟨rb,ro,rfl,_,_⟩:=hR 0 (by have:=HY.o.1;omega);have l7:=gG T.o;have g5:=HY.o.2.1;go_wp2_with fail
 refine (pM w2 a G f rb ro Q Kk (by omega) d3 T.o HY.o g0 (hN.kept (C.o.trans K2)) (hR.kept (C.o.trans K2))).mono ?_;rintro e w3 ⟨O,n,P,p,xs,rfl,g6,g7,g8,g9⟩;have H:=K2.trans g9;have e2:Hid (Strs w3 O Kk/\bD w3 P (bV f Kk)):=by
  obtain⟨l8,c9,h0,h3⟩:=aX g6;simp only[KX,true_and] at h0;rw[<-h0.1] at h3;obtain⟨_,a8,c8,e8,h4⟩:=aW.runs g7 g8 (K_.refl _);simp only[KX,true_and] at e8;rw[<-e8.1] at h4;exact⟨h3,h4.runs⟩
 clear g6 g7 g8 g9;obtain⟨a1,e3⟩:=aj w3.heap.size;have j4:w3.heap.size<=a1:=by omega
 have h5:=Kz e3;clear Z a0 R z0 S;go_upto_region 4 with fail
 rw[<-e3];clear e3;go_wp2
 go_loopg [6] (2*lu f (bV f Kk)+1) (fun gg x6 wr=>∃(L:List Qz) (bb:Bool) (O:LM) (n:Nat) (P:LM) (p:Nat),x6= .bool bb/\K_ w3 wr/\tK wr a1 Kk L O n P p/\Hid (Cn f Kk l L bb gg))
 case atStart=>exact⟨bV f Kk,true,O,n,P,p,rfl,ag _ _,by rw[h5.o];exact tK.made e2.o.1 e2.o.2,Kz (Cn.begin T.o Kk l)⟩
 case round=>
  clear e2 h5;obtain⟨L,bb,O,n,P,p,rfl,Kr,D,I⟩:=hrel;obtain⟨wO,rfl⟩:=aj wr;obtain⟨gO,rfl⟩:=aj gk;have h6:L.length<=60:=by have:=I.o.good.len;omega
  obtain⟨Z,a0,R,z0,S⟩:=HC.o _ (H.trans Kr);have m0:=D.c0;have m1:=D.c1;have mz:=D.row.lt;have q:=Kz D;clear D;cases bb
  ·go_wp2_with fail
   refine (Gc wO O (some ⟨rb,ro,none⟩) P d n Q p dc Kk Kk L l f9 f9 (by omega) g1 (fun x hx=>by have h1:=(I.o.good.good x hx).tl;have h2:=(I.o.good.good x hx).hi;omega) i8 q.o.rts (hR.kept (C.o.trans (H.trans Kr))) q.o.rns (hS.kept (C.o.trans (H.trans Kr)))).mono ?_;rintro e w5 ⟨⟨b5,rfl,h7⟩,k5⟩;have H5:=Kz h7;clear h7;go_wp2
   go_ret
   refine⟨⟨b5,rfl, ?_⟩,C.o.trans ((H.trans Kr).trans k5)⟩;rw[H5.o];obtain⟨kk,hl⟩:=I.o.led;have h:=EM I.o.good hl (I.o.fin rfl);exact⟨fun ⟨_,e⟩=>⟨T.o,HY.o,g4,h.1 e⟩,fun ⟨_,_,_,g⟩=>⟨by trivial,h.2 g⟩⟩
  ·go_wp2_with fail
   refine (oM wO a G f O Kk.length n P p L (by omega) (by omega) (gV T.o) (fun r hr _ _=>(I.o.good.good r hr).act) (hN.kept (C.o.trans (H.trans Kr))) q.o.rns).mono ?_;rintro e w6 ⟨⟨da,lc,J,rfl,e4,h8⟩,k6⟩;have b2:=Kz e4;have j5:=Kz (gD.owned (xb:=a1) h8 mz);have l9:J.length<=60:=by have:=e4.len;omega
   have h9:=Kz (q.o.kept k6);have K6:=Kr.trans k6;clear e4 h8 Z a0 R z0 S m0 m1 mz q k6;obtain⟨L0,e5⟩:=aj L;have i1:Hid (fV f (Qj l) (Qj (bV f Kk)) J L0 L 0 false):=by rw[e5];exact fV.start I.o.good I.o.led b2.o
   rw[<-e5] at I b2;clear e5 h6;go_wp2
   go_loopg [6,8] J.length (fun gg x6 x8 wr=>∃(m:Nat) (b:Bool) (L:List Qz) (O:LM) (n:Nat) (P:LM) (p:Nat),x6= .bool b/\x8= .int .i64 (m:Int)/\m+gg=J.length/\Xk a1 (a1+1) w6 wr/\tK wr a1 Kk L O n P p/\Hid (fV f (Qj l) (Qj (bV f Kk)) J L0 L m b))
   case atStart=>exact⟨0,false,L,O,n,P,p,rfl,rfl,by omega,Xk.refl _ _ _,h9.o,i1⟩
   case round=>
    clear h9 i1;obtain⟨m,b,L,O,n,P,p,rfl,rfl,m2,KB,D,a2⟩:=hrel;obtain⟨U,rfl⟩:=aj wr;have h6:L.length<=60:=by have:=a2.o.good.len;omega
    have a3:K_ w3 U:=KB.kept K6 j4;by_cases j6:(m:Int)<(J.length:Int);rotate_left
    ·obtain rfl:m=J.length:=by omega
     obtain⟨h1,h2⟩:=I.o.next b2.o a2.o;have j7:=Kz h1;clear h1;go_wp2
     go_roundg (2*lu f L+ (if b=true then 1 else 0))
     case measure=>exact h2
     case rel=>exact⟨L,b,O,n,P,p,rfl,a3,D,j7⟩
    have d5:m<J.length:=by omega
    obtain⟨V,hn⟩:=aj (J.getD m ByteArray.empty);obtain⟨lb,lo,rfl,e6,m3,b3⟩:=j5.o.but KB m d5;rw[<-hn] at b3;obtain⟨pb,po,rfl,_,_⟩:=D.rts 0 (by have:=HY.o.1;omega);have i2:=a2.o.rest m (JP _) d5;rw[<-hn] at i2;obtain⟨r,hr,i3⟩:=i2;obtain⟨j,hj,e7⟩:∃j,j<L.length/\L.getD j Qz.zero=r:=by
     obtain⟨j8,h1,h2⟩:=Kb (bF hr).1;exact⟨j8,h1,by simp only[List.getD,JV h1,Lx,h2]⟩
    obtain⟨t,v,ta,tc,rfl,a7,E,i4,j9⟩:=D.rns j hj;rw[e7] at E i4;have⟨M,d6,HN,i5⟩:=lg hr i3 hn e7;have m0:=D.c0;have m1:=D.c1;have mz:=D.row.lt;have q:=Kz D;have t0:U.cell? ⟨t,v+j*7,none⟩=some (.string r.name):=E 0 _ rfl;have t1:U.cell? ⟨t,v+j*7+1,none⟩=some (.bool r.over):=E 1 _ rfl;have t2:U.cell? ⟨t,v+j*7+2,none⟩=some (.bool r.fail):=E 2 _ rfl;have t3:U.cell? ⟨t,v+j*7+3,none⟩=some (.string r.text):=E 3 _ rfl;have t4:U.cell? ⟨t,v+j*7+4,none⟩=some (.int .i64 r.at'):=E 4 _ rfl;have t5:U.cell? ⟨t,v+j*7+5,none⟩=some (.int .i64 r.Zj):=E 5 _ rfl;have t6:U.cell? ⟨t,v+j*7+6,none⟩=some (.slice ta r.texts.length tc):=E 6 _ rfl;have e9:Hid (∀w',K_ U w'->w'.cell? ⟨w.heap.size+1,0,none⟩=some (.slice (some ⟨rb,ro,none⟩) Kk.length Q)/\w'.cell? ⟨w.heap.size+1,1,none⟩=some (.slice d l.length dc)/\w'.cell? ⟨lb,lo+m,none⟩=some (.string V)):=fun w' K=>⟨(HC.o _ (H.trans (a3.trans K))).2.1,(HC.o _ (H.trans (a3.trans K))).2.2.1,(K.cell e6).trans b3⟩
    have a9:Hid (∀w',K_ U w'->w'.cell? ⟨a1,0,none⟩=some (.slice (some ⟨pb,po,none⟩) Kk.length n)/\w'.cell? ⟨a1,1,none⟩=some (.slice (some ⟨t,v,none⟩) L.length p)/\w'.cell? ⟨lb,lo+m,none⟩=some (.string V)/\w'.cell? ⟨t,v+j*7,none⟩=some (.string r.name)/\w'.cell? ⟨t,v+j*7+1,none⟩=some (.bool r.over)/\w'.cell? ⟨t,v+j*7+2,none⟩=some (.bool r.fail)/\w'.cell? ⟨t,v+j*7+3,none⟩=some (.string r.text)/\w'.cell? ⟨t,v+j*7+4,none⟩=some (.int .i64 r.at')/\w'.cell? ⟨t,v+j*7+5,none⟩=some (.int .i64 r.Zj)/\w'.cell? ⟨t,v+j*7+6,none⟩=some (.slice ta r.texts.length tc)):=fun w' K=>⟨(K.cell mz).trans m0,(K.cell mz).trans m1,(K.cell e6).trans b3,(K.cell a7).trans t0,(K.cell a7).trans t1,(K.cell a7).trans t2,(K.cell a7).trans t3,(K.cell a7).trans t4,(K.cell a7).trans t5,(K.cell a7).trans t6⟩
    have d7:Hid (∀w',K_ U w'->w'.cell? ⟨w.heap.size,0,none⟩=some (.slice a f.length G)/\w'.cell? ⟨a1,0,none⟩=some (.slice (some ⟨pb,po,none⟩) Kk.length n)/\w'.cell? ⟨a1,1,none⟩=some (.slice (some ⟨t,v,none⟩) L.length p)/\w'.cell? ⟨lb,lo+m,none⟩=some (.string V)):=fun w' K=>⟨(HC.o _ (H.trans (a3.trans K))).1,(K.cell mz).trans m0,(K.cell mz).trans m1,(K.cell e6).trans b3⟩
    clear hr i3 hn e7 D E i4 j9 t0 t1 t2 t3 t4 t5 t6 m0 m1 b3;have i0:(m:Int)<(J.length:Int):=j6;go_upto_region 11 with fail
    refine bf 6 e9.o fun F B k=>?_
    refine au 0 k ?_;refine af 4 k ?_;refine ak 5 (fun K i=>?_);go_simp
    go_at_call 43
    refine (fZ F (some ⟨rb,ro,none⟩) Kk.length Q d dc l V g1 (hS.kept (C.o.trans (H.trans (a3.trans B))))).mono ?_;rintro e w7 ⟨⟨m4,rfl,i6⟩,i7⟩;have K7:=B.trans i7;have k0:=Kz i6;refine ae i (fun _=>e9.o _ K7) ?_;clear i K k i6;refine ah 6 (fun K i=>?_);go_simp
    refine ae i (fun h=>Lv rfl h) ?_;clear i K;refine aB ?_;clear B i7;go_upto_region 12 with fail
    go_cut [10] from 49 to 58 (fun k2 wx=>∃gb,k2= .pointer (some ⟨gb,0,none⟩)/\K_ w7 wx/\iG wx gb r ta tc)
    case first=>
     refine iF 11 a9.o (K7.drew) (fun k=>?_);have B:K_ w7 w7.drew:=aL w7;generalize b4:w7.drew=F at k B⊢;clear b4;refine au 0 k ?_;refine af 4 k ?_;refine af 5 k ?_;refine af 6 k ?_;refine dx 7 10 (fun K i=>?_) (fun K i=>?_)
     ·rw[Lt (by rfl)];go_simp
      go_at_call 43
      refine (fZ F (some ⟨pb,po,none⟩) Kk.length n (some ⟨t,v,none⟩) p L V (by omega) (q.o.rns.kept (K7.trans B))).mono ?_;rintro e X ⟨⟨q8,rfl,b6⟩,k8⟩;obtain rfl:=AQ a2.o.good.asc hj i5.o M.o b6;have k3:(j:Int)<(L.length:Int):=by omega
      have A:=(K7.trans B).trans k8;refine i.out _ _ (fun _=>a9.o _ A) ?_;clear i K k b6;have k:=a9.o _ A;try simp only[upP]
      refine af 8 k ?_;refine af 9 k ?_;refine ah 10 (fun K i=>?_);go_simp
      have N:K_ X (X.alloc (.cells #[.string ⟨#[]⟩,.bool false,.bool false,.string ⟨#[]⟩,.int .i64 0,.int .i64 0,.slice none 0 0] 40)):=ag _ _;have a4:aC (X.alloc (.cells #[.string ⟨#[]⟩,.bool false,.bool false,.string ⟨#[]⟩,.int .i64 0,.int .i64 0,.slice none 0 0] 40)) X.heap.size 40 7:=aC.made X _ _;have KE:=(B.trans k8).trans N;have nz:=(B.trans k8).size;obtain⟨gb,b7⟩:=aj X.heap.size;refine i.out _ _ (fun _=>a9.o _ (K7.trans KE)) ?_;clear i K;rw[<-b7] at a4 nz⊢;generalize f0:X.alloc (.cells #[.string ⟨#[]⟩,.bool false,.bool false,.string ⟨#[]⟩,.int .i64 0,.int .i64 0,.slice none 0 0] 40)=wE at a4 KE⊢;clear f0 N b7;try simp only[upP]
      obtain⟨⟨⟨_,v0⟩,f1⟩,⟨⟨_,v1⟩,f2⟩,⟨⟨_,v2⟩,k4⟩,⟨⟨_,v3⟩,k7⟩,⟨⟨_,v4⟩,k9⟩,⟨⟨_,v5⟩,l0⟩,⟨_,v6⟩,f6⟩:=a4.row.Fb;have vz:=a4.lt;refine ah 11 (fun K i=>?_);go_simp
      refine ae i (fun h=>Lv rfl h) ?_;clear i K;refine aB ?_;go_wp2
      go_meet
      exact⟨gb,rfl,bQ (g:=gb) nz [.string r.name,.bool r.over,.bool r.fail,.string r.text,.int .i64 r.at',.int .i64 r.Zj,.slice ta r.texts.length tc] 0 KE,iG.laid a4⟩
     ·rw[Lt (by rfl)];go_simp
      have N:K_ F (F.alloc (.cells #[.string ⟨#[]⟩,.bool false,.bool false,.string ⟨#[]⟩,.int .i64 0,.int .i64 0,.slice none 0 0] 40)):=ag _ _;have f3:aC (F.alloc (.cells #[.string ⟨#[]⟩,.bool false,.bool false,.string ⟨#[]⟩,.int .i64 0,.int .i64 0,.slice none 0 0] 40)) F.heap.size 40 7:=aC.made F _ _;have KF:=B.trans N;have nz:=B.size;obtain⟨gb,b7⟩:=aj F.heap.size;refine i.out _ _ (fun _=>a9.o _ (K7.trans KF)) ?_;clear i K;rw[<-b7] at f3 nz⊢;generalize f0:F.alloc (.cells #[.string ⟨#[]⟩,.bool false,.bool false,.string ⟨#[]⟩,.int .i64 0,.int .i64 0,.slice none 0 0] 40)=wF at f3 KF⊢;clear f0 N b7;try simp only[upP]
      refine ak 7 (fun K i=>?_);go_simp
      go_at_call 43
      refine (fZ wF (some ⟨pb,po,none⟩) Kk.length n (some ⟨t,v,none⟩) p L V (by omega) (q.o.rns.kept (K7.trans KF))).mono ?_;rintro e X ⟨⟨q8,rfl,b6⟩,k8⟩;obtain rfl:=AQ a2.o.good.asc hj i5.o M.o b6;have k3:(j:Int)<(L.length:Int):=by omega
      have A:=(K7.trans KF).trans k8;refine i.out _ _ (fun _=>a9.o _ A) ?_;clear i K k b6;have k:=a9.o _ A;try simp only[upP]
      refine af 8 k ?_;refine af 9 k ?_;have a4:=f3.kept k8;have KE:=KF.trans k8;obtain⟨⟨⟨_,v0⟩,f1⟩,⟨⟨_,v1⟩,f2⟩,⟨⟨_,v2⟩,k4⟩,⟨⟨_,v3⟩,k7⟩,⟨⟨_,v4⟩,k9⟩,⟨⟨_,v5⟩,l0⟩,⟨_,v6⟩,f6⟩:=a4.row.Fb;have vz:=a4.lt;refine ah 11 (fun K i=>?_);go_simp
      refine ae i (fun h=>Lv rfl h) ?_;clear i K;refine aB ?_;go_wp2
      go_meet
      exact⟨gb,rfl,bQ (g:=gb) nz [.string r.name,.bool r.over,.bool r.fail,.string r.text,.int .i64 r.at',.int .i64 r.Zj,.slice ta r.texts.length tc] 0 KE,iG.laid a4⟩
    case rest=>
     obtain⟨gb,rfl,k8,f4⟩:=hcut;obtain⟨X,rfl⟩:=aj wc;have A:=K7.trans k8;obtain⟨_,_,_,_,_,m5,_⟩:=f4.all;have gz:=f4.row.lt;obtain⟨_,R,_⟩:=e9.o _ A;have S:=(HC.o _ (H.trans (a3.trans A))).2.2.2.2;have d8:Hid (¬Behind (W:=Q_ f) bA (Qj l) (Qj L) V->fV f (Qj l) (Qj (bV f Kk)) J L0 L (m+1) b):=fun h=>a2.o.skip (by rw[<-HN.o];exact h)
     clear f4 k8;go_upto_region 13 with fail
     rcases k0.o with⟨d9,hq,rfl,b1,_⟩|⟨rfl,b1⟩;rotate_left
     ·have b0:=Kz b1;clear b1
      go_quiet (fail)
      go_wp2
      go_roundg (gk-1)
      case measure=>omega
      case rel=>exact⟨m+1,b,L,_,n,_,p,rfl,by go_num,by omega,(KB.trans (Xk.aF A)).drewN nq,q.o.kept (A.drewN nq),Kz (d8.o (tT b0.o))⟩
     obtain⟨g,hg⟩:=aj (l.getD d9 Qz.zero);rw[<-hg] at b1;have b0:=Kz b1;obtain⟨hb,ho,ua,uc,rfl,f5,E,_,_⟩:=hS d9 hq;rw[<-hg] at E;have KW:=C.o.trans (H.trans (a3.trans A));have u1:=(KW.cell f5).trans (E 1 _ rfl);have u5:=(KW.cell f5).trans (E 5 _ rfl);have uz:=JQ f5 KW.size;have m6:¬(d9:Int)<0:=by omega
     have ql:(d9:Int)<(l.length:Int):=by omega
     clear b1 E hg;by_cases h1:g.Zj<r.Zj
     ·go_quiet (fail)
      go_wp2
      go_roundg (gk-1)
      case measure=>omega
      case rel=>exact⟨m+1,b,L,_,n,_,p,rfl,by go_num,by omega,(KB.trans (Xk.aF A)).drewN nq,q.o.kept (A.drewN nq),Kz (d8.o (pU M.o b0.o (by rintro (h | ⟨h,_⟩) <;> omega)))⟩
     by_cases h2:r.Zj=g.Zj
     ·have l1:(r.Zj == g.Zj)=true:=by simp[h2]
      have H2:=Kz h2;clear h2;cases e0:g.over
      ·rw[e0] at u1
       go_quiet (fail)
       go_wp2
       go_roundg (gk-1)
       case measure=>omega
       case rel=>exact⟨m+1,b,L,_,n,_,p,rfl,by go_num,by omega,(KB.trans (Xk.aF A)).drewN nq,q.o.kept (A.drewN nq),Kz (d8.o (pU M.o b0.o (by have:=H2.o;rintro (h|⟨_,h,_⟩);omega;rw[e0] at h;cases h)))⟩
      ·rw[e0] at u1;by_cases m7:r.Zj<20
       ·go_quiet (fail)
        go_wp2
        go_roundg (gk-1)
        case measure=>omega
        case rel=>exact⟨m+1,b,L,_,n,_,p,rfl,by go_num,by omega,(KB.trans (Xk.aF A)).drewN nq,q.o.kept (A.drewN nq),Kz (d8.o (pU M.o b0.o (by have:=H2.o;rintro (h | ⟨_,_,h⟩) <;> omega)))⟩
       ·have f7:Hid (Behind (W:=Q_ f) bA (Qj l) (Qj L) V):=⟨⟨r,M.o,d6.o⟩,r,g,M.o,b0.o,.inr ⟨H2.o,e0,by omega⟩⟩
        go_quiet (fail)
        have N:=A.drewN nq;generalize f8:X.drewN nq=w9 at N⊢;clear f8;go_upto_region 14 with fail
        refine iF 7 d7.o (N.drew) (fun k=>?_);have B:K_ w9 w9.drew:=aL w9;generalize b4:w9.drew=F at k B⊢;clear b4;refine au 0 k ?_;refine af 4 k ?_;refine af 5 k ?_;refine ak 6 (fun K i=>?_);go_simp
        go_at_call 50
        have Y:=N.trans B;refine (oJ F a G f pb po n Kk (some ⟨t,v,none⟩) p L V r (by omega) (by omega) (gV T.o) (aZ T.o) d3 g5 a2.o.good M.o d6.o (hN.kept (C.o.trans (H.trans (a3.trans Y)))) (q.o.rns.kept Y) (q.o.rts.kept Y)).mono ?_;rintro e wA ⟨b8,b9,c2,c3,l2,rfl,c4,c5,c6,kA⟩;have KA:=Y.trans kA;have zA:=Y.size;have c7:=Kz (tK.laid (by omega) (q.o.row.kept KA) c4 c5 c6);have d0:Hid (fV f (Qj l) (Qj (bV f Kk)) J L0 (doL (Q_ f) L r) (m+1) true):=a2.o.did (aZ T.o) (b2.o.nodup I.o.good.asc) d5 (by rw[<-HN.o];exact f7.o) (by rw[<-HN.o];exact M.o);clear c4 c5 c6 kA;obtain⟨d1,d2⟩:=aj (doL (Q_ f) L r);rw[<-d2] at c7 d0⊢;clear d2;have a5:=q.o.row.kept KA;obtain⟨⟨_,x0⟩,f1⟩:=a5.row.at (i:=0) (by omega);obtain⟨⟨_,x1⟩,f2⟩:=a5.row.at (i:=1) (by omega);have l3:=a5.lt;clear a5;refine ae i (fun _=>d7.o _ KA) ?_;clear i K k;refine ah 7 (fun K i=>?_);go_simp
        refine ae i (fun h=>Lv rfl h) ?_;clear i K;refine aB ?_;go_wp2
        go_roundg (gk-1)
        case measure=>omega
        case rel=>exact⟨m+1,true,d1,b8,b9,c2,c3,rfl,by go_num,by omega,Xk.sets (JP _) (Ky _) [.slice b8 Kk.length b9,.slice c2 d1.length c3] 0 (KB.trans (Xk.aF KA)),c7.o,d0⟩
     ·have l1:(r.Zj == g.Zj)=false:=by simpa using h2
      have l4:r.Zj<g.Zj:=by omega
      clear h2;have f7:Hid (Behind (W:=Q_ f) bA (Qj l) (Qj L) V):=⟨⟨r,M.o,d6.o⟩,r,g,M.o,b0.o,.inl l4⟩
      go_quiet (fail)
      have N:=A.drewN nq;generalize f8:X.drewN nq=w9 at N⊢;clear f8;go_upto_region 14 with fail
      refine iF 7 d7.o (N.drew) (fun k=>?_);have B:K_ w9 w9.drew:=aL w9;generalize b4:w9.drew=F at k B⊢;clear b4;refine au 0 k ?_;refine af 4 k ?_;refine af 5 k ?_;refine ak 6 (fun K i=>?_);go_simp
      go_at_call 50
      have Y:=N.trans B;refine (oJ F a G f pb po n Kk (some ⟨t,v,none⟩) p L V r (by omega) (by omega) (gV T.o) (aZ T.o) d3 g5 a2.o.good M.o d6.o (hN.kept (C.o.trans (H.trans (a3.trans Y)))) (q.o.rns.kept Y) (q.o.rts.kept Y)).mono ?_;rintro e wA ⟨b8,b9,c2,c3,l2,rfl,c4,c5,c6,kA⟩;have KA:=Y.trans kA;have zA:=Y.size;have c7:=Kz (tK.laid (by omega) (q.o.row.kept KA) c4 c5 c6);have d0:Hid (fV f (Qj l) (Qj (bV f Kk)) J L0 (doL (Q_ f) L r) (m+1) true):=a2.o.did (aZ T.o) (b2.o.nodup I.o.good.asc) d5 (by rw[<-HN.o];exact f7.o) (by rw[<-HN.o];exact M.o);clear c4 c5 c6 kA;obtain⟨d1,d2⟩:=aj (doL (Q_ f) L r);rw[<-d2] at c7 d0⊢;clear d2;have a5:=q.o.row.kept KA;obtain⟨⟨_,x0⟩,f1⟩:=a5.row.at (i:=0) (by omega);obtain⟨⟨_,x1⟩,f2⟩:=a5.row.at (i:=1) (by omega);have l3:=a5.lt;clear a5;refine ae i (fun _=>d7.o _ KA) ?_;clear i K k;refine ah 7 (fun K i=>?_);go_simp
      refine ae i (fun h=>Lv rfl h) ?_;clear i K;refine aB ?_;go_wp2
      go_roundg (gk-1)
      case measure=>omega
      case rel=>exact⟨m+1,true,d1,b8,b9,c2,c3,rfl,by go_num,by omega,Xk.sets (JP _) (Ky _) [.slice b8 Kk.length b9,.slice c2 d1.length c3] 0 (KB.trans (Xk.aF KA)),c7.o,d0⟩
theorem gJ.good{a:List Qz}(h:gJ Kq Kk a):dB Kq a:=by
 obtain⟨_,_,_,k,L,c,_,_,rfl⟩:=h;exact c
theorem dB.texts{l:List Qz}(h:dB Kq l):∀r∈l,r.texts.length<=1000:=fun r b=>by
 have c:=(h.good r b).tl;have d:=(h.good r b).hi;omega
section
variable (W : fQ) (σ : Env)
end
theorem BC{b:List Qq}{σ:Env}{n:LK}(f:bT (Q_ b))(h:f_ b σ)(c:eD (Q_ b) σ n):f_ b (doX (Q_ b) σ n):=by
 obtain⟨r,c,i⟩:=c;intro m q a;rw[ik c] at a;by_cases e:m=n
 ·rw[Lt e] at a;cases a;exact⟨by rw[eG,e];exact (h n r c).1,fG f h (h n r c).2 i⟩
 ·rw[Lu e] at a;cases d:σ m with
  | some x=>
   rw[d] at a;cases a;exact h m _ d
  | none=>
   rw[d] at a;simp only at a
   split at a
   ·rename_i h2
    cases a;exact⟨rfl,jL f h2.2⟩
   ·cases a
def iI(l:List LK):Prop:=l.Pairwise aP
theorem iI.nodup{l:List LK}(h:iI l):l.Nodup:=h.imp fun b=>dA b
def ER(l:List LK)(x:LK)(r:List LK):Prop:=(x∈l/\r=l)\/(x∉l/\∃k,k<=l.length/\r=l.take k++x :: l.drop k/\(∀y∈l.take k,aP y x)/\∀y∈l.drop k,aP x y)
theorem ER.asc{l r:List LK}{x:LK}(h:ER l x r)(b:iI l):iI r/\∀s,s∈r↔s∈l\/s=x:=by
 rcases h with⟨e,rfl⟩|⟨e,k,n,rfl,f,i⟩
 ·exact⟨b,fun s=>⟨.inl,fun h=>h.elim id (fun j=>by rw[j];exact e)⟩⟩
 ·have c:iI (l.take k++l.drop k):=by rw[Lj];exact b
  unfold iI at c⊢;rw[KC] at c⊢;refine⟨⟨c.1,LF.2 ⟨i,c.2.1⟩,fun a b m d=>?_⟩,fun s=>?_⟩
  ·rcases Lb.1 d with rfl|d
   ·exact f a b
   ·exact c.2.2 a b m d
  ·rw[JZ,Lb];constructor
   ·rintro (h|h|h)
    ·exact .inl (List.mem_of_mem_take h)
    ·exact .inr h
    ·exact .inl (List.mem_of_mem_drop h)
   ·rintro (h|h)
    ·rw[<-Lj k l] at h;rcases JZ.1 h with h|h
     ·exact .inl h
     ·exact .inr (.inr h)
    ·exact .inr (.inl h)
section
variable (W : fQ) (σ : Env)
def II(s:LK):Prop:=∃q,σ s=some q/\q.over=false
def aS(n s:LK):Prop:=∃r A,σ n=some r/\r.over=false/\r.Zj≠0/\W n=some A/\s∈(stepOf A r.at').asks/\II σ s
def nu(n:LK)(ns:List LK):Prop:=iI ns/\∀s,s∈ns↔aS W σ n s
def mI :Prop:=∀n r A,σ n=some r->r.over=false->r.Zj≠0->W n=some A->∀s∈(stepOf A r.at').asks,(W s).isSome=true->(σ s).isSome=true
end
theorem tH{A:fP}{r:Qz}:(gU A r).2= (stepOf A (gU A r).1.at').asks:=by
 unfold gU;simp only
 split <;> rfl
variable {σ : Env}
theorem CZ{W:fQ}{r:Qz}{A:fP}(c:W r.name=some A)(h:bZ W σ r)(a:(Y_ W σ r).1.over=false):(Y_ W σ r).2= (stepOf A (Y_ W σ r).1.at').asks:=by
 unfold Y_ at a⊢;rw[c] at a⊢;simp only at a⊢;by_cases b:r.Zj=0
 ·rw[Lt b];exact tH
 ·rw[Lu b] at a⊢;rcases h.2 with i|⟨l,j,d,k⟩
  ·exact Lv i b
  ·rw[c] at d;cases d;rw[k] at a⊢;simp only at a⊢;by_cases e:r.Zj=20
   ·rw[Lt e] at a;cases a
   ·rw[Lu e] at a⊢;by_cases f:(eY (stepOf A r.at') j).over=true
    ·rw[Lt f] at a;cases a
    ·rw[Lu f];exact tH
variable {n : LK} {Kq : List Qq}
theorem mI.did(p:mI (Q_ Kq) σ)(q:f_ Kq σ)(t:eD (Q_ Kq) σ n):mI (Q_ Kq) (doX (Q_ Kq) σ n):=by
 obtain⟨r,b,v⟩:=t;have w:r.name=n:=(q n r b).1;intro m C A a f h i s j k;rw[ik b] at a;rw[ik b];by_cases e:s=n
 ·rw[Lt e];rfl
 rw[Lu e];cases y:σ s with
 | some x=>rfl
 | none=>
  simp only;by_cases c:m=n
  ·rw[Lt c] at a;cases a;subst c;have B:dW (Y_ (Q_ Kq) σ r).2 s=true:=by
    rw[dY,CZ (by rw[w];exact i) v f];exact j
   simp[B,k]
  ·rw[Lu c] at a;cases d:σ m with
   | some x=>
    rw[d] at a;cases a;have l:=p m _ A d f h i s j k;rw[y] at l;exact Lv l (by simp)
   | none=>
    rw[d] at a;simp only at a
    split at a
    ·cases a;exact Lv rfl h
    ·cases a
theorem gJ.asked{Kk:List LK}{c:List Qz}(a:gJ Kq Kk c):mI (Q_ Kq) (Qj c):=by
 have d:=aZ a.1;obtain⟨_,_,_,j,L,i,f,_,rfl⟩:=a;have h:=f.keeps (P:=fun σ:Env=>f_ Kq σ/\mI (Q_ Kq) σ) (fun σ m h e=>⟨BC d h.1 e.1,h.2.did h.1 e.1⟩) ⟨(gX d Kk).env,fun n r A b k a=>by
  rw[pO] at b
  split at b
  ·cases b;exact Lv rfl a
  ·cases b⟩
 exact h.2
theorem Ap(m:f_ Kq σ)(x:mI (Q_ Kq) σ){r:Qz}(d:σ n=some r)(s:LK):s∈pend (Q_ Kq) σ r↔aS (Q_ Kq) σ n s:=by
 obtain⟨j,hgd⟩:=m n r d;obtain⟨A,b,_⟩:=hgd.act;rw[j] at b;unfold pend;constructor
 ·intro h
  split at h
  ·cases h
  ·rename_i h0
   rw[j,b] at h;simp only[List.mem_filter] at h;obtain⟨e,a⟩:=h;have f:r.over=false:=by
    cases y:r.over
    ·rfl
    ·exact Lv (.inl y) h0
   have i:r.Zj≠0:=fun B=>h0 (.inr B)
   refine⟨r,A,d,f,i,b,e, ?_⟩;unfold bP at a;cases k:Q_ Kq s with
   | none=>rw[k] at a;cases a
   | some C=>
    rw[k] at a;simp only at a;have p:=x n r A d f i b s e (by rw[k];rfl);cases l:σ s with
    | none=>rw[l] at p;cases p
    | some q=>
     rw[l] at a;simp only at a;cases c:q.over
     ·exact⟨q,l,c⟩
     ·rw[Lt c] at a;cases a
 ·rintro⟨G,H,t,f,i,v,e,q,c,D⟩;rw[d] at t;cases t;rw[b] at v;cases v;rw[Lu (by rw[f];simp[i]),j,b];simp only[List.mem_filter];refine⟨e, ?_⟩;obtain⟨E,F⟩:=m s q c;obtain⟨C,w,_⟩:=F.act;rw[E] at w;unfold bP;rw[w,c];simp[D]
theorem aS.size(b:bT (Q_ Kq))(c:f_ Kq σ){s:LK}(h:aS (Q_ Kq) σ n s):s.size<=20:=by
 obtain⟨_,_,_,_,_,_,_,q,d,_⟩:=h;obtain⟨e,hgd⟩:=c s q d;obtain⟨A,a,_⟩:=hgd.act;rw[e] at a;exact (b s A a).2.2.1
def nC(Kq:List Qq)(Kk:List LK)(sl:List Qz)(name:LK)(ns:List LK):Prop:=(gJ Kq Kk sl/\nu (Q_ Kq) (Qj sl) name ns)\/(¬gJ Kq Kk sl/\ns=[])
theorem nu.len(i:bT (Q_ Kq))(j:f_ Kq σ){b:List LK}(h:nu (Q_ Kq) σ n b):b.length<=5:=by
 cases d:b with
 | nil=>simp
 | cons x l=>
  obtain⟨r,A,e,_,_,c,_⟩:=(h.2 x).1 (by rw[d];simp);obtain⟨k,hgd⟩:=j n r e;obtain⟨m,a,p,q⟩:=hgd.act;rw[k,c] at a;cases a;have w:=(iV (i n A c).1 p q).1;have:=List.Nodup.length_le_of_subset h.1.nodup (l₂:=(stepOf A r.at').asks) (fun s t=>by
   obtain⟨y,m,f,_,_,a,v,_⟩:=(h.2 s).1 t;rw[e] at f;cases f;rw[c] at a;cases a;exact v)
  rw[<-d];omega
theorem nC.len{Kk:List LK}{b:List Qz}{c:LK}{a:List LK}(h:nC Kq Kk b c a):a.length<=5:=by
 rcases h with⟨d,e⟩|⟨_,rfl⟩
 ·obtain⟨f,_,_,k,L,i,_,_,rfl⟩:=d;exact e.len (aZ f) i.env
 ·exact JR _
structure gB (E:LK->LK->Prop) (nm:List LK):Prop where
 asc:iI nm
 all:∀x y,E x y->x∈nm
def bE(E:LK->LK->Prop)(nm:List LK)(p q:Nat):Prop:=∃(hp:p<nm.length) (hq:q<nm.length),E nm[p] nm[q]
variable {best : List Nat} {n p : Nat}
section
variable {E : LK -> LK -> Prop} {nm : List LK}
theorem gB.less(h:gB E nm){q:Nat}(a:p<nm.length)(b:q<nm.length):aP nm[p] nm[q]↔p<q:=by
 have c:=Ka.1 h.asc;constructor
 ·intro d;rcases Ls p q with e|e|e
  ·exact e
  ·subst e;exact Lv d (aV _)
  ·exact Lv d (dH (c q p b a e))
 ·exact c p q a b
theorem gB.inj(h:gB E nm){q:Nat}(b:p<nm.length)(c:q<nm.length)(e:nm[p]=nm[q]):p=q:=by
 rcases Ls p q with g|g|g
 ·have:=(h.less b c).2 g;rw[e] at this;exact Lv this (aV _)
 ·exact g
 ·have:=(h.less c b).2 g;rw[e] at this;exact Lv this (aV _)
theorem gB.place(h:gB E nm){x y:LK}(b:E x y):∃(p:Nat) (hp:p<nm.length),nm[p]=x:=Kb (h.all x y b)
theorem oH{q:Nat}(h:aR (bE E nm) n p q)(c:p<nm.length):∃b:q<nm.length,aR E n nm[p] nm[q]:=by
 induction h with
 | here a=>exact⟨c,.here _⟩
 | step h _ ih=>
  obtain⟨_,d,e⟩:=h;obtain⟨b,f⟩:=ih d;exact⟨b,.step e f⟩
theorem gB.back(h:gB E nm):∀{n:Nat} {p q:Nat} (b:p<nm.length) (a:q<nm.length),aR E n nm[p] nm[q]->aR (bE E nm) n p q:=by
 intro n
 induction n with
 | zero=>intro p q b a c;rw[h.inj b a c.zero];exact .here q
 | succ n ih=>
  intro p q b a c;obtain⟨i,j,d⟩:=c.first
  have:∃(r:Nat) (f:r<nm.length),nm[r]=i:=by
   cases n with
   | zero=>exact⟨q,a,d.zero.symm⟩
   | succ m=>
    obtain⟨l,k,_⟩:=d.first
    exact h.place k
  obtain⟨r,f,rfl⟩:=this;exact .step ⟨b,f,j⟩ (ih f a d)
theorem gB.far(h:gB E nm){q:Nat}(b:p<nm.length)(e:q<nm.length):Far (bE E nm) q n p↔Far E nm[q] n nm[p]:=by
 constructor
 ·intro a;exact⟨(oH a.1 b).2,fun m c d=>a.2 m c (h.back b e d)⟩
 ·intro a;exact⟨h.back b e a.1,fun m c d=>a.2 m c (oH d b).2⟩
def yL(p:Nat->Prop)(x:Nat):Prop:=p x/\∀y,p y->x<=y
inductive kQ (R:Nat->Nat->Prop) (t:Nat):Nat->Nat->List Nat->Prop
 | stop (a:Nat):kQ R t 1 a [a]
 | step {n:Nat} {a x:Nat} {l:List Nat} (h:yL (fun y=>R a y/\Far R t n y) x) (r:kQ R t n x l):kQ R t (n+1) a (a :: l)
def nameOf(nm:List LK)(p:Nat):LK:=nm.getD p ByteArray.empty
theorem iP(a:p<nm.length):nameOf nm p=nm[p]:=by simp[nameOf,List.getD,a]
theorem kQ.names(h:gB E nm){t:Nat}(f:t<nm.length){a:Nat}{l:List Nat}(i:kQ (bE E nm) t n a l)(b:a<nm.length):lS E nm[t] n nm[a] (l.map (nameOf nm)):=by
 induction i with
 | stop a=>rw[List.map_cons,List.map_nil,iP b];exact .stop _
 | @step n a x l hl r ih=>
  obtain⟨⟨⟨_,c,j⟩,k⟩,p⟩:=hl;rw[List.map_cons,iP b];refine .step ⟨⟨j,(h.far c f).1 k⟩,fun y d q=>?_⟩ (ih c);have w:1<=n:=by cases r <;> omega
  obtain⟨m,rfl⟩:∃m,n=m+1:=⟨n-1,by omega⟩;obtain⟨z,s,_⟩:=d.2.next;obtain⟨v,e,rfl⟩:=h.place s;have A:=p v ⟨⟨b,e,d.1⟩,(h.far e f).2 d.2⟩;have B:=(h.less e c).1 q;omega
def jm(R:Nat->Nat->Prop)(t n:Nat):Prop:=1<=n/\aR R n t t/\∀m,1<=m->m<n->¬aR R m t t
structure iZ (R:Nat->Nat->Prop) (k:Nat) (best:List Nat):Prop where
 no:best=[]->∀t,t<k->∀n,¬jm R t n
 yes:best≠[]->∃t n,t<k/\jm R t n/\kQ R t n t best/\best.length=n/\(∀h,h<k->∀j,jm R h j->n<=j/\(h<t->n<j))
theorem iZ.start(R:Nat->Nat->Prop):iZ R 0 []:=⟨fun _ _t b=>aT b,fun h=>Lv rfl h⟩
theorem jm.unique{R:Nat->Nat->Prop}{t m:Nat}(h:jm R t n)(g:jm R t m):n=m:=by
 rcases Ls n m with e|e|e
 ·exact Lv h.2.1 (g.2.2 n h.1 e)
 ·exact e
 ·exact Lv g.2.1 (h.2.2 m g.1 e)
theorem iZ.skip{R:Nat->Nat->Prop}{k:Nat}(h:iZ R k best)(a:∀n,jm R k n->best≠[]/\best.length<=n):iZ R (k+1) best:=by
 refine⟨fun e t m n b=>?_,fun e=>?_⟩
 ·by_cases g:t=k
  ·subst g;exact (a n b).1 e
  ·exact h.no e t (by omega) n b
 ·obtain⟨t,n,p,d,f,i,l⟩:=h.yes e;refine⟨t,n,by omega,d,f,i,fun q r j c=>?_⟩;by_cases g:q=k
  ·subst g;have:=(a j c).2;exact⟨by omega,fun s=>by omega⟩
  ·exact l q (by omega) j c
theorem iZ.take{R:Nat->Nat->Prop}{k:Nat}{l:List Nat}(h:iZ R k best)(c:jm R k n)(d:kQ R k n k l)(f:l.length=n)(a:best=[]\/n<best.length):iZ R (k+1) l:=by
 have i:l≠[]:=by cases d <;> simp
 refine⟨fun e=>Lv e i,fun _=>⟨k,n,by omega,c,d,f,fun q p j b=>?_⟩⟩;by_cases g:q=k
 ·subst g;have:=c.unique b;exact⟨by omega,fun r=>by omega⟩
 ·rcases a with rfl|a
  ·exact Lv b (h.no rfl q (by omega) j)
  ·obtain⟨t,s,v,w,x,y,m⟩:=h.yes (by intro e;rw[e] at a;simp at a);have:=(m q (by omega) j b).1;exact⟨by omega,fun _=>by omega⟩
theorem iZ.Jo(h:gB E nm)(j:iZ (bE E nm) nm.length best):qg E (best.map (nameOf nm)):=by
 have l:∀x n,1<=n->aR E n x x->∃(p:Nat) (a:p<nm.length),nm[p]=x:=fun x n f c=>by
  obtain⟨m,rfl⟩:∃m,n=m+1:=⟨n-1,by omega⟩;obtain⟨b,j,_⟩:=c.first
  exact h.place j
 have q:∀n p (a:p<nm.length),1<=n->aR E n nm[p] nm[p]->∃m,m<=n/\jm (bE E nm) p m:=by
  intro n
  induction n using Nat.strongRecOn with
  | ind n ih=>
   intro p a f c;by_cases d:∃m,1<=m/\m<n/\aR (bE E nm) m p p
   ·obtain⟨m,i,e,r⟩:=d;obtain⟨A,H,B⟩:=ih m e p a i (oH r a).2;exact⟨A,by omega,B⟩
   ·exact⟨n,JP _,f,h.back a a c,fun m i e r=>d ⟨m,i,e,r⟩⟩
 by_cases s:best=[]
 ·refine .inl ⟨fun x n f c=>?_,by rw[s];rfl⟩;obtain⟨p,a,rfl⟩:=l x n f c;obtain⟨m,_,d⟩:=q n p a f c;exact j.no s p a m d
 ·obtain⟨C,n,k,d,D,_,t⟩:=j.yes s;refine .inr ⟨n,nm[C],d.1,fun x v w c=>?_,⟨(oH d.2.1 k).2,fun F y G=>?_⟩,D.names h k k⟩
  ·obtain⟨p,a,rfl⟩:=l x v w c;obtain⟨m,i,e⟩:=q v p a w c;have:=(t p a m e).1;omega
  ·obtain⟨p,a,rfl⟩:=l F n d.1 y;obtain⟨m,i,e⟩:=q n p a d.1 y;have:=(t p a m e).2 ((h.less a k).1 G);omega
end
section
variable (E : LK -> LK -> Prop) (g : LK)
def dO(b:Nat)(x:LK)(v:Nat):Prop:=(aP x g->v=0)/\(¬aP x g->(v≠0->dQ E g v x/\v<b)/\∀m,m<b->dQ E g m x->v=m)
end
variable {x : LK} {n : Nat}
section
variable {E : LK -> LK -> Prop} {g : LK}
theorem dO.start :dO E g 1 x 0:=⟨fun _=>rfl,fun _=>⟨fun h=>Lv rfl h,fun m d b=>by have:=b.1.pos;omega⟩⟩
theorem dO.keep{v:Nat}(h:dO E g n x v)(a:v≠0\/aP x g):dO E g (n+1) x v:=by
 refine⟨h.1,fun b=>?_⟩;rcases a with a | a
 ·obtain⟨d,f⟩:=h.2 b;obtain⟨c,i⟩:=d a;exact⟨fun _=>⟨c,by omega⟩,fun m _ e=>c.unique e⟩
 ·exact Lv a b
def Hit(E:LK->LK->Prop)(g:LK)(n:Nat)(x s:LK):Prop:=E x s/\((n=1/\s=g)\/(1<n/\aP g s/\dQ E g (n-1) s))
theorem De(h:1<=n)(f:∀m,m<n->¬dQ E g m x):(∃s,Hit E g n x s)↔dQ E g n x:=by
 rcases Nat.lt_or_ge 1 n with d|d
 ·obtain⟨q,rfl⟩:∃q,n=q+1:=⟨n-1,by omega⟩;rw[dQ.succ (by omega)];constructor
  ·rintro⟨s,a,⟨b,_⟩|⟨_,b,c⟩⟩
   ·omega
   ·exact⟨⟨s,a,b,by simpa using c⟩,fun m i=>f m (by omega)⟩
  ·rintro⟨⟨s,a,b,c⟩,_⟩;exact⟨s,a,.inr ⟨d,b,by simpa using c⟩⟩
 ·have:n=1:=by omega
  subst this;rw[dQ.one];constructor
  ·rintro⟨s,a,⟨_,rfl⟩|⟨b,_⟩⟩
   ·exact a
   ·omega
  ·intro a;exact⟨g,a,.inl ⟨rfl,rfl⟩⟩
theorem dO.hit(d:1<=n)(h:dO E g n x 0)(c:¬aP x g)(e:∃s,Hit E g n x s):dO E g (n+1) x n:=by
 have f:∀m,m<n->¬dQ E g m x:=fun m b a=>by
  have:=(h.2 c).2 m b a;have:=a.1.pos;omega
 have a:=(De d f).1 e;exact⟨fun i=>Lv i c,fun _=>⟨fun _=>⟨a,by omega⟩,fun m _ b=>a.unique b⟩⟩
theorem dO.miss(d:1<=n)(h:dO E g n x 0)(f:¬aP x g)(i:¬∃s,Hit E g n x s):dO E g (n+1) x 0:=by
 have b:∀m,m<n->¬dQ E g m x:=fun m c a=>by
  have:=(h.2 f).2 m c a;have:=a.1.pos;omega
 refine⟨fun _=>rfl,fun _=>⟨fun e=>Lv rfl e,fun m c a=>?_⟩⟩;rcases Nat.lt_or_ge m n with e | e
 ·exact Lv a (b m e)
 ·have:m=n:=by omega
  subst this;exact Lv ((De d b).2 a) i
theorem dO.ask{b:Nat}{s:LK}{v:Nat}(h:dO E g b s v)(c:aP g s)(d:1<n)(f:n<=b):v=n-1↔dQ E g (n-1) s:=by
 have a:¬aP s g:=dH c;constructor
 ·intro e;have:=((h.2 a).1 (by omega)).1;rw[e] at this;exact this
 ·exact (h.2 a).2 (n-1) (by omega)
theorem dO.whole{names:List LK}(d:∀x y,E x y->x∈names){v:Nat}(h:dO E g (names.length+1) x v)(b:¬aP x g):(v≠0->dQ E g v x)/\(∀m,dQ E g m x->v=m):=
 ⟨fun e=>((h.2 b).1 e).1,fun m c=>(h.2 b).2 m (by have:=c.bound d;omega) c⟩
theorem jc.start(E:LK->LK->Prop):jc E [] []:=⟨fun _ g h=>(by cases h),fun h=>Lv rfl h⟩
theorem kZ.len{a:LK}{l:List LK}(h:kZ E g n a l):l.length=n:=by
 induction h with
 | stop=>rfl
 | step _ _ ih=>simp[ih]
theorem jc.skip{b a:List LK}(h:jc E b a){g:LK}(d:∀n,dQ E g n g->a≠[]/\a.length<=n)(l:∀x∈b,aP x g):jc E (b++ [g]) a:=by
 refine⟨fun e x c n f=>?_,fun e=>?_⟩
 ·rcases JZ.1 c with q|q
  ·exact h.no e x q n f
  ·rw[JY] at q;subst q;exact (d n f).1 e
 ·obtain⟨t,n,i,m,p,r,s⟩:=h.yes e;refine⟨t,n,JZ.2 (.inl i),m,p,r,fun x c j k=>?_⟩;rcases JZ.1 c with q | q
  ·exact s x q j k
  ·rw[JY] at q;subst q;have:=(d j k).2;exact⟨by omega,fun v=>Lv v (dH (l t i))⟩
theorem jc.take{h c l:List LK}(i:jc E h c){g:LK}(d:dQ E g n g)(j:kZ E g n g l)(b:c=[]\/n<c.length):jc E (h++ [g]) l:=by
 have a:=j.len;have p:l≠[]:=fun e=>by rw[e] at a;have:=d.1.pos;simp at a;omega
 refine⟨fun e=>Lv e p,fun _=>⟨g,n,JZ.2 (.inr (by simp)),d,j,a,fun x r k f=>?_⟩⟩;rcases JZ.1 r with q | q
 ·rcases b with rfl|b
  ·exact Lv f (i.no rfl x q k)
  ·obtain⟨t,m,v,w,y,A,s⟩:=i.yes (by intro e;rw[e] at b;simp at b);have:=(s x q k f).1;exact⟨by omega,fun _=>by omega⟩
 ·rw[JY] at q;subst q;have:=d.unique f;exact⟨by omega,fun a=>Lv a (aV _)⟩
end
variable {l : List LK}
section
variable {E : LK -> LK -> Prop} {g : LK}
structure mV (E:LK->LK->Prop) (g:LK) (n:Nat) (l:List LK) (a:LK) (q:Nat):Prop where
 len:l.length+q=n+1
 pos:1<=q
 far:dQ E g q a
 last:∃l0,l=l0++ [a]
 rest:∀r,kZ E g q a r->kZ E g n g (l.dropLast++r)
theorem mV.start{n:Nat}(h:dQ E g n g):mV E g n [g] g n:=
 ⟨by simp;omega,h.1.pos,h,⟨[],rfl⟩,fun r b=>b⟩
theorem mV.next{n q:Nat}{a x:LK}(h:mV E g n l a (q+1))(f:1<=q)(c:gM (fun y=>E a y/\aP g y/\dQ E g q y) x):mV E g n (l++ [x]) x q:=by
 obtain⟨j,d⟩:=h.last;refine⟨by have:=h.len;rw[KS];simp;omega,f,c.1.2.2,⟨l,rfl⟩,fun r i=>?_⟩;have e:=h.rest (a :: r) (kZ.step c i);rw[List.dropLast_concat];rw[d,List.dropLast_concat] at e;rw[d,List.append_assoc];exact e
theorem mV.done{n:Nat}{a:LK}(h:mV E g n l a 1):kZ E g n g l:=by
 obtain⟨e,c⟩:=h.last;have d:=h.rest [a] (kZ.stop a);rw[c,List.dropLast_concat] at d;rw[c];exact d
theorem mV.more{n q:Nat}{a:LK}(h:mV E g n l a (q+1))(c:1<=q):∃y,E a y/\aP g y/\dQ E g q y:=((dQ.succ c).1 h.far).1
theorem AA{p:LK->Prop}(d:iI l)(e:∀y,p y->y∈l){k:Nat}(f:k<l.length)(h:p l[k])(i:∀y∈l.take k,¬p y):gM p l[k]:=by
 refine⟨h,fun y a b=>?_⟩;obtain⟨j,m,rfl⟩:=Kb (e y a);rcases Ls j k with c | rfl | c
 ·exact i l[j] (by rw[List.mem_take_iff_getElem];exact⟨j,by omega,rfl⟩) a
 ·exact aV _ b
 ·exact dH b (Ka.1 d k j f m c)
end
def gp(Kq:List Qq)(Kk:List LK)(sl:List Qz)(ns:List LK):Prop:=ns.length<=60/\((gJ Kq Kk sl/\qg (aS (Q_ Kq) (Qj sl)) ns)\/(¬gJ Kq Kk sl/\ns=[]))
theorem gp.len{b:List Qq}{Kk:List LK}{c:List Qz}{a:List LK}(h:gp b Kk c a):a.length<=60:=h.1
theorem gp.one{e:List Qq}{Kk:List LK}{f:List Qz}{h i:List LK}(j:gp e Kk f h)(k:gp e Kk f i):i=h:=by
 rcases j.2 with⟨c,d⟩|⟨c,d⟩
 ·rcases k.2 with⟨a,b⟩|⟨a,b⟩
  ·exact b.unique d
  ·exact Lv c a
 ·rcases k.2 with⟨a,b⟩|⟨a,b⟩
  ·exact Lv a c
  ·rw[d,b]
theorem jc.len{E:LK->LK->Prop}{names a:List LK}(h:jc E names a)(b:∀x y,E x y->x∈names):a.length<=names.length:=by
 by_cases e:a=[]
 ·rw[e];exact JR _
 ·obtain⟨t,n,_,c,_,d,_⟩:=h.yes e;have:=c.bound b;omega
def kK(V:Nat->Nat)(f n i:Nat):LQ:= .int .i64 ((if i<60 then V i else if i=60 then f else n:Nat):Int)
structure gu (w:LP) (rb:Nat) (Q:List Nat):Prop where
 ex:∃V f,f<60/\Q.length<=60/\w.rowIs rb 165 62 (kK V f Q.length)/\∀i,i<Q.length->V ((f+i) % 60)=Q.getD i 0
theorem gu.block{w w':LP}{a:Nat}{Q:List Nat}(h:gu w a Q)(k:w'.heap[a]? =w.heap[a]?):gu w' a Q:=by
 obtain⟨V,f,b,d,⟨c,e,i⟩,j⟩:=h;exact⟨V,f,b,d,⟨c,k.trans e,i⟩,j⟩
theorem mE{w:LP}{b n:Nat}{t:TypeId}{F G:Nat->LQ}(h:w.rowIs b t n F)(i:Nat)(v:LQ)(c:∀p,p<n->G p=if p=i then v else F p):(w.setCell ⟨b,i,none⟩ v).rowIs b t n G:=by
 obtain⟨d,e,f,j⟩:=World.rowIs.set h i v;refine⟨d,e,f,fun p a=>?_⟩;rw[j p a,c p a]
theorem ja{w w':LP}{b n:Nat}{t:TypeId}{F:Nat->LQ}(h:w.rowIs b t n F)(k:K_ w w'):w'.rowIs b t n F:=by
 obtain⟨e,c,f⟩:=h;exact⟨e,(k.block b (aO c)).trans c,f⟩
theorem uh(w:LP)(a:Nat)(Q:List Nat)(p:Nat)(v:gu w a Q)(F:Q.length<60):
  Calls prog 115 #[.pointer (some ⟨a,0,none⟩),.int .i64 (p:Int)] w fun e w'=>e= .returned (.tuple #[])/\gu w' a (Q++ [p])/\But (fun b=>b=a) w w':=by
 obtain⟨V,f,H,hn,c,x⟩:=v.ex;obtain⟨n,q⟩:=aj Q.length;rw[<-q] at c F;obtain⟨k,y⟩:=aj ((f+n) % 60);have I:k<60:=by omega
 have J:w.cell? ⟨a,60,none⟩=some (.int .i64 (f:Int)):=by rw[c.cell (by omega)];rfl
 have A:w.cell? ⟨a,61,none⟩=some (.int .i64 (n:Int)):=by rw[c.cell (by omega)];rfl
 have K:((f:Int)+ (n:Int)).tmod 60= (k:Int):=by rw[Int.tmod_eq_emod_of_nonneg (by omega)];omega
 have r:=fun i=>c.frozen i
 have L:=r k;have B:=r 61;have a0:(k:Int)<60:=by omega
 have M:=c.cell (show k<62 by omega);have s:=mE c k (.int .i64 (p:Int)) (G:=kK (fun i=>if i=k then p else V i) f n) (fun i d=>by
  unfold kK;by_cases e:i=k
  ·subst e;simp[I]
  ·simp[e])
 obtain⟨w1,h⟩:=aj (w.setCell ⟨a,k,none⟩ (.int .i64 (p:Int)));rw[<-h] at s;have C:But (fun b=>b=a) w w1:=by rw[h];exact But.set (S:=fun b=>b=a) (But.aF (K_.refl w)) (p:=⟨a,k,none⟩) rfl _
 have⟨N,O⟩:=aH s C;have P:Hid (∀i,i<Q.length->V ((f+i) % 60)=Q.getD i 0):=x;have R:Hid (k= (f+n) % 60):=y;have t:Hid (n=Q.length):=q;clear c r s C x y q v;go_enter func115,ntmps115
 go_wp2
 go_region
 rw[<-h];have j:K_ w1 w1.drew:=aL w1;generalize T:w1.drew=w2 at j⊢;clear h T J A L B M K;have l:=ja N.o j;have A:w2.cell? ⟨a,61,none⟩=some (.int .i64 (n:Int)):=by rw[l.cell (by omega)];rfl
 have B:=l.frozen 61;have U:=Kz l;have W:=Kz (O.o.trans (But.aF j));clear l j;go_wp2
 go_end0
 refine⟨rfl,⟨fun i=>if i=k then p else V i,f,H,by rw[KS];simp;have:=t.o;omega, ?_,fun i d=>?_⟩,But.set (S:=fun b=>b=a) W.o (p:=⟨a,61,none⟩) rfl _⟩
 ·rw[KS];refine mE U.o 61 _ (fun i d=>?_);unfold kK;have m:=t.o;by_cases e:i=61
  ·subst e;simp[m]
  ·have X:¬i<60->i=60:=by omega
   by_cases D:i<60
   ·simp[D,e]
   ·simp[X D]
 ·rw[KS] at d;have m:=t.o;have Y:=R.o;by_cases e:i=Q.length
  ·subst e;simp only[<-m,<-Y,if_true,List.getD];rw[m];simp
  ·have E:i<Q.length:=by simp at d;omega
   have Z:(f+i) % 60≠k:=by omega
   simp only[Lu Z,P.o i E,List.getD,Lh E]
theorem vB(w:LP)(a:Nat)(Q:List Nat)(p:Nat)(v:gu w a (p :: Q)):
  Calls prog 116 #[.pointer (some ⟨a,0,none⟩)] w fun e w'=>e= .returned (.int .i64 (p:Int))/\gu w' a Q/\But (fun b=>b=a) w w':=by
 obtain⟨V,f,x,J,c,q⟩:=v.ex;obtain⟨n,j⟩:=aj Q.length;have y:V f=p:=by have:=q 0 (by simp);simpa[Nat.mod_eq_of_lt x] using this
 rw[KY,<-j] at c;rw[KY,<-j] at J;have W:(f:Int)<60:=by omega
 have A:Hid (∀u,w.rowIs a 165 62 (kK V f (n+1))->K_ w u->u.cell? ⟨a,60,none⟩=some (.int .i64 (f:Int))/\u.cell? ⟨a,f,none⟩=some (.int .i64 (p:Int))):=fun u c k=>by
  have B:=ja c k;refine⟨by rw[B.cell (by omega)];rfl, ?_⟩;rw[B.cell (by omega)];unfold kK;rw[Lt x,y]
 obtain⟨r,C⟩:=A.o w c (K_.refl w);have D:=Kz c;have K:Hid (∀i,i<Q.length->V ((f+ (i+1)) % 60)=Q.getD i 0):=fun i l=>by have:=q (i+1) (by simp;omega);simpa using this
 have E:Hid (n=Q.length):=j;clear c q j v y A;go_enter func116,ntmps116
 go_wp2
 go_region
 have s:K_ w w.drew:=aL w;generalize L:w.drew=w1 at s⊢;clear L r C;have m:=ja D.o s;have r:w1.cell? ⟨a,60,none⟩=some (.int .i64 (f:Int)):=by rw[m.cell (by omega)];rfl
 obtain⟨k,F⟩:=aj ((f+1) % 60);have M:((f:Int)+1).tmod 60= (k:Int):=by rw[Int.tmod_eq_emod_of_nonneg (by omega)];omega
 have N:=m.frozen 60;have⟨O,H⟩:=aH m F;clear m D F;go_upto_region 3 with fail
 have d:=mE O.o 60 (.int .i64 (k:Int)) (G:=kK V k (n+1)) (fun i l=>by
  unfold kK;by_cases e:i=60
  ·subst e;simp
  ·by_cases h:i<60
   ·simp[h,e]
   ·simp[h,e])
 have t:But (fun b=>b=a) w (w1.setCell ⟨a,60,none⟩ (.int .i64 (k:Int))):=But.set (S:=fun b=>b=a) (But.aF s) (p:=⟨a,60,none⟩) rfl _;generalize P:w1.setCell ⟨a,60,none⟩ (.int .i64 (k:Int))=w2 at d t⊢;clear P r N M;have C:w2.cell? ⟨a,61,none⟩=some (.int .i64 ((n+1:Nat):Int)):=by rw[d.cell (by omega)];rfl
 have X:=d.frozen 61;have Y:((n+1:Nat):Int)-1= (n:Int):=by omega
 have I:=mE d 61 (.int .i64 (n:Int)) (G:=kK V k n) (fun i l=>by
  unfold kK;by_cases e:i=61
  ·subst e;simp
  ·have R:¬i<60->i=60:=by omega
   by_cases h:i<60
   ·simp[h,e]
   ·simp[R h])
 have T:=Kz I;have U:=Kz (But.set (S:=fun b=>b=a) t (p:=⟨a,61,none⟩) rfl (.int .i64 (n:Int)));clear d I t;go_wp2
 go_ret
 refine⟨rfl,⟨V,k, ?_, ?_, ?_,fun i l=>?_⟩,U.o⟩
 ·rw[H.o];omega
 ·have:=E.o;omega
 ·rw[<-E.o];exact T.o
 ·rw[<-K.o i l];have:=H.o
  congr 1
  omega
theorem Ah(w:LP)(x y:LK):Calls prog 113 #[.string x,.string y] w fun e w'=>e= .returned (.bool (Op.bytesLess x.toList y.toList))/\w'=w:=by
 cases a:Op.bytesLess x.toList y.toList
 all_goals
  go_enter func113,ntmps113
  go_wp2
  go_ret
  exact⟨rfl,rfl⟩
theorem xe(w:LP)(x:LK):Calls prog 114 #[.string x] w fun e w'=>e= .returned (.bool false)/\w'=w:=by
 go_enter func114,ntmps114
 go_wp2
 go_ret
 exact⟨rfl,rfl⟩
def pW(l:List LK)(s:LK)(e:Ending):Prop:=∃(k:Nat) (b:Bool),e= .returned (.tuple #[.int .i64 (k:Int),.bool b])/\(b=true->k<l.length/\l.getD k ByteArray.empty=s)/\(b=false->s∉l)
theorem pW.mk{l:List LK}{s:LK}{e:Ending}(k:Nat)(b:Bool)(h:e= .returned (.tuple #[.int .i64 (k:Int),.bool b]))(c:b=true->k<l.length/\l.getD k ByteArray.empty=s)(h2:b=false->s∉l):pW l s e:=⟨k,b,h,c,h2⟩
theorem Aj(w:LP)(a:LM)(R:Nat)(l:List LK)(s:LK)(W:l.length<=1048576)(E:iI l)(F:Strs w a l):
  Calls prog 71 #[.slice a l.length R,.string s] w fun e w'=>pW l s e/\w'=w:=by
 have v:Hid (∀p q,p<q->q<l.length->aP (l.getD p ByteArray.empty) (l.getD q ByteArray.empty)):=fun p q n c=>by
  have:=Ka.1 E p q (by omega) c n;simpa[List.getD,c,show p<l.length by omega] using this
 clear E;go_enter func71,ntmps71
 go_wp2
 go_loopw [7,8] (fun x y wr=>∃i j:Nat,x= .int .i64 i/\y= .int .i64 j/\i<=j/\j<=l.length/\Hid (∀t,t<i->aP (l.getD t ByteArray.empty) s)/\Hid (∀t,j<=t->t<l.length->¬aP (l.getD t ByteArray.empty) s)/\wr=w) (fun x y _=>(intOf y).toNat-(intOf x).toNat)
 case atStart=>exact⟨0,l.length,rfl,rfl,JR _,JP _,Kz (fun t G=>aT G),Kz (fun t n c=>by omega),rfl⟩
 case round=>
  obtain⟨i,j,rfl,rfl,X,S,H,I,rfl⟩:=hrel;by_cases Y:(i:Int)<j
  ·obtain⟨h,J⟩:∃h:Nat,h= (i+j) / 2:=⟨_,rfl⟩;have K:h<l.length:=by omega
   have T:i<=h:=by omega
   have Z:h<j:=by omega
   obtain⟨b,o,rfl,U,r⟩:=F h K;obtain⟨d,f⟩:=aj (l.getD h ByteArray.empty);rw[<-f] at r;have k:=Kz f;clear f;have a0:((i:Int)+ (j:Int)) / 2= (h:Int):=by omega
   have HH:=Kz J;clear J;go_wp2_with fail
   refine (Ah _ d s).mono ?_;rintro e w1 ⟨rfl,rfl⟩;clear r;cases L:Op.bytesLess d.toList s.toList
   ·go_wp2
    go_roundw
    case rel=>
     refine⟨i,h,rfl,by go_num,T,by omega,H,Kz (fun t n c M=>?_),trivial⟩;have N:¬aP (l.getD h ByteArray.empty) s:=fun g=>by rw[<-k.o] at g;unfold aP at g;rw[L] at g;cases g
     rcases Nat.lt_or_ge h t with e|e
     ·exact N (fF (v.o h t e c) M)
     ·have:t=h:=by omega
      subst this;exact N M
    case measure=>simp[intOf];omega
   ·go_wp2
    go_roundw
    case rel=>
     refine⟨h+1,j,by go_num,rfl,by omega,S,Kz (fun t G=>?_),I,trivial⟩;have O:aP (l.getD h ByteArray.empty) s:=by rw[<-k.o];exact L
     rcases Nat.lt_or_ge t h with e|e
     ·exact fF (v.o t h e K) O
     ·have:t=h:=by omega
      subst this;exact O
    case measure=>simp[intOf];omega
  ·have V:i=j:=by omega
   subst V;have P:Hid (s∈l->i<l.length/\l.getD i ByteArray.empty=s):=fun m=>by
    obtain⟨q,A,e⟩:=Kb m;have B:l.getD q ByteArray.empty=s:=by simpa[List.getD,A] using e
    have n:¬q<i:=fun g=>by have:=H.o q g;rw[B] at this;exact aV _ this
    have c:q=i:=by
     rcases Nat.lt_or_ge i q with g|g
     ·have Q:=v.o i q g A;rw[B] at Q;exact Lv Q (I.o i (JP _) (by omega))
     ·omega
    subst c;exact⟨A,B⟩
   by_cases C:i<l.length
   ·obtain⟨b,o,rfl,U,r⟩:=F i C;obtain⟨d,f⟩:=aj (l.getD i ByteArray.empty);rw[<-f] at r;have k:=Kz f;clear f;have a1:(i:Int)<(l.length:Int):=by omega
    cases D:(d.toList == s.toList)
    ·go_wp2_with (first | (go_at_call 114;refine (xe _ _).mono ?_;rintro e w1 ⟨rfl,rfl⟩))
     go_ret2
     exact⟨pW.mk i false rfl (fun h=>by cases h) (fun _ m=>by
      have c:=(P.o m).2;rw[<-k.o] at c;rw[c] at D;simp at D),rfl⟩
    ·go_wp2
     go_ret2
     exact⟨pW.mk i true rfl (fun _=>⟨C,by rw[<-k.o];exact eF D⟩) (fun h=>by cases h),rfl⟩
   ·go_wp2
    go_ret2
    exact⟨pW.mk i false rfl (fun h=>by cases h) (fun _ m=>C (P.o m).1),rfl⟩
structure fK (E:LK->LK->Prop) (nm:List LK) (k:Nat) (S:List LK) (j M:Nat) (need back:Nat->List Nat):Prop where
 fwd:∀p q,q∈need p↔(p<k/\bE E nm p q)\/(p=k/\∃hq:q<nm.length,nm[q]∈S.take j)
 bwd:∀p q,p∈back q↔(p<k/\bE E nm p q)\/(p=k/\∃hq:q<nm.length,nm[q]∈S.take j)
 asc:∀p,(need p).Pairwise (· <= ·)
 len:∀p,(need p).length<=M/\(back p).length<=M
structure vM (E:LK->LK->Prop) (nm:List LK) (M:Nat) (need back:Nat->List Nat):Prop where
 fwd:∀p q,q∈need p↔bE E nm p q
 bwd:∀p q,p∈back q↔bE E nm p q
 asc:∀p,(need p).Pairwise (· <= ·)
 len:∀p,(need p).length<=M/\(back p).length<=M
section
variable {E : LK -> LK -> Prop} {nm S : List LK} {k j M : Nat} {need back : Nat -> List Nat}
theorem fK.start(E:LK->LK->Prop)(c S:List LK):fK E c 0 S 0 0 (fun _=>[]) (fun _=>[]):=
 ⟨fun p q=>by simp,fun p q=>by simp,fun p=>List.Pairwise.nil,fun p=>⟨JP _,JP _⟩⟩
theorem fK.enter(h:fK E nm k S 0 M need back)(b:List LK):fK E nm k b 0 M need back:=
 ⟨fun p q=>by rw[h.fwd];simp,fun p q=>by rw[h.bwd];simp,h.asc,h.len⟩
theorem fK.leave(h:fK E nm k S j M need back)(f:k<nm.length)(i:S.length<=j)(c:∀y,y∈S↔E nm[k] y):fK E nm (k+1) [] 0 M need back:=by
 have d:∀p q,(p<k/\bE E nm p q)\/(p=k/\∃b:q<nm.length,nm[q]∈S.take j)↔(p<k+1/\bE E nm p q)\/(p=k+1/\∃b:q<nm.length,nm[q]∈([]:List LK).take 0):=fun p q=>by
  rw[KJ i];constructor
  ·rintro (⟨l,a⟩|⟨rfl,b,a⟩)
   ·exact .inl ⟨by omega,a⟩
   ·exact .inl ⟨by omega,f,b,(c _).1 a⟩
  ·rintro (⟨l,m,b,a⟩|⟨_,_,a⟩)
   ·by_cases e:p=k
    ·subst e;exact .inr ⟨rfl,b,(c _).2 a⟩
    ·exact .inl ⟨by omega,m,b,a⟩
   ·simp at a
 exact⟨fun p q=>(h.fwd p q).trans (d p q),fun p q=>(h.bwd p q).trans (d p q),h.asc,h.len⟩
theorem fK.skip(h:fK E nm k S j M need back)(e:j<S.length)(f:S[j]∉nm):fK E nm k S (j+1) M need back:=by
 have d:∀q:Nat,(∃a:q<nm.length,nm[q]∈S.take j)↔∃a:q<nm.length,nm[q]∈S.take (j+1):=fun q=>by
  rw[JX e];constructor
  ·rintro⟨a,c⟩;exact⟨a,JZ.2 (.inl c)⟩
  ·rintro⟨a,c⟩;rcases JZ.1 c with b|b
   ·exact⟨a,b⟩
   ·rw[JY] at b;exact Lv (by rw[<-b];exact J_ a) f
 exact⟨fun p q=>by rw[h.fwd,d],fun p q=>by rw[h.bwd,d],h.asc,h.len⟩
theorem fK.put(m:gB E nm)(h:fK E nm k S j M need back)(n:j<S.length)(v:S.Pairwise fun a b=>¬aP b a){q:Nat}(i:q<nm.length)(l:nm[q]=S[j])(D:k<nm.length)(F:∀y∈S,E nm[k] y):
  fK E nm k S (j+1) (M+1) (fun p=>if p=k then need k++ [q] else need p) (fun p=>if p=q then back q++ [k] else back p):=by
 have s:∀r:Nat,(∃f:r<nm.length,nm[r]∈S.take (j+1))↔(∃f:r<nm.length,nm[r]∈S.take j)\/r=q:=fun r=>by
  rw[JX n];constructor
  ·rintro⟨f,d⟩;rcases JZ.1 d with c|c
   ·exact .inl ⟨f,c⟩
   ·rw[JY,<-l] at c;exact .inr (m.inj f i c)
  ·rintro (⟨f,d⟩|rfl)
   ·exact⟨f,JZ.2 (.inl d)⟩
   ·exact⟨i,JZ.2 (.inr (by rw[l];simp))⟩
 refine⟨fun p r=>?_,fun p r=>?_,fun p=>?_,fun p=>⟨?_, ?_⟩⟩
 ·rw[s];by_cases e:p=k
  ·subst e;simp only[if_true,JZ,JY,h.fwd];constructor
   ·rintro ((⟨d,c⟩|⟨_,c⟩) | c)
    ·exact .inl ⟨d,c⟩
    ·exact .inr ⟨trivial,.inl c⟩
    ·exact .inr ⟨trivial,.inr c⟩
   ·rintro (⟨d,c⟩|⟨_,c|c⟩)
    ·exact .inl (.inl ⟨d,c⟩)
    ·exact .inl (.inr ⟨trivial,c⟩)
    ·exact .inr c
  ·show (r∈if p=k then need k++ [q] else need p)↔_;rw[Lu e,h.fwd];simp only[e,false_and,or_false]
 ·rw[s];by_cases e:r=q
  ·subst e;simp only[if_true,JZ,JY,h.bwd];constructor
   ·rintro ((d|⟨d,c⟩) | d)
    ·exact .inl d
    ·exact .inr ⟨d,.inl c⟩
    ·exact .inr ⟨d,.inr trivial⟩
   ·rintro (d|⟨d,c|_⟩)
    ·exact .inl (.inl d)
    ·exact .inl (.inr ⟨d,c⟩)
    ·exact .inr d
  ·show (p∈if r=q then back q++ [k] else back r)↔_;rw[Lu e,h.bwd];simp only[e,or_false]
 ·by_cases e:p=k
  ·subst e;simp only[if_true];rw[KC];refine⟨h.asc p,by simp,fun a w b t=>?_⟩;rw[JY] at t;subst t;rcases (h.fwd p a).1 w with⟨d,_⟩ | ⟨_,x,c⟩
   ·omega
   ·obtain⟨A,G,B⟩:=List.mem_take_iff_getElem.1 c;have C:=Ka.1 v A j (by omega) n (by omega);rw[B,<-l,m.less i x] at C;omega
  ·simp only[Lu e];exact h.asc p
 ·by_cases e:p=k
  ·simp only[e,if_true,KS,LD];have:=(h.len k).1;omega
  ·simp only[Lu e];have:=(h.len p).1;omega
 ·by_cases e:p=q
  ·simp only[e,if_true,KS,LD];have:=(h.len q).2;omega
  ·simp only[Lu e];have:=(h.len p).2;omega
theorem fK.whole(h:fK E nm nm.length [] 0 M need back):vM E nm M need back:=by
 have e:∀p q,(p<nm.length/\bE E nm p q)\/(p=nm.length/\∃hq:q<nm.length,nm[q]∈([]:List LK).take 0)↔bE E nm p q:=fun p q=>by
  constructor
  ·rintro (⟨_,c⟩|⟨_,_,c⟩)
   ·exact c
   ·simp at c
  ·intro c;exact .inl ⟨c.1,c⟩
 exact⟨fun p q=>(h.fwd p q).trans (e p q),fun p q=>(h.bwd p q).trans (e p q),h.asc,h.len⟩
end
section
variable {R : Nat -> Nat -> Prop} {t : Nat}
structure oV (R:Nat->Nat->Prop) (t n:Nat) (l:List Nat) (a q:Nat):Prop where
 len:l.length+q=n+1
 pos:1<=q
 more:2<=q->∃y,R a y/\Far R t (q-1) y
 last:∃l0,l=l0++ [a]
 rest:∀r,kQ R t q a r->kQ R t n t (l.dropLast++r)
theorem oV.start{n:Nat}(h:jm R t n):oV R t n [t] t n:=by
 refine⟨by simp;omega,h.1,fun e=>?_,⟨[],rfl⟩,fun r b=>b⟩;obtain⟨m,rfl⟩:∃m,n=m+1:=⟨n-1,by omega⟩;obtain⟨y,a,c⟩:=h.2.1.first
 refine⟨y,a,c,fun i f d=>h.2.2 (i+1) (by omega) (by omega) (.step a d)⟩
theorem oV.next{n q a x:Nat}{l:List Nat}(h:oV R t n l a (q+1))(e:1<=q)(b:yL (fun y=>R a y/\Far R t q y) x):oV R t n (l++ [x]) x q:=by
 obtain⟨i,c⟩:=h.last;refine⟨by have:=h.len;rw[KS];simp;omega,e,fun j=>?_,⟨l,rfl⟩,fun r f=>?_⟩
 ·obtain⟨m,rfl⟩:∃m,q=m+1:=⟨q-1,by omega⟩;exact b.1.2.next
 ·have d:=h.rest (a :: r) (kQ.step b f);rw[List.dropLast_concat];rw[c,List.dropLast_concat] at d;rw[c,List.append_assoc];exact d
theorem oV.done{n a:Nat}{l:List Nat}(h:oV R t n l a 1):kQ R t n t l:=by
 obtain⟨e,c⟩:=h.last;have d:=h.rest [a] (kQ.stop a);rw[c,List.dropLast_concat] at d;rw[c];exact d
theorem yZ{p:Nat->Prop}{l:List Nat}(d:l.Pairwise (· <= ·))(e:∀y,p y->y∈l){k:Nat}(f:k<l.length)(h:p l[k])(i:∀j (a:j<l.length),j<k->¬p l[j]):yL p l[k]:=by
 refine⟨h,fun y c=>?_⟩;obtain⟨j,a,rfl⟩:=Kb (e y c);rcases Ls j k with b | rfl | b
 ·exact Lv c (i j a b)
 ·exact JP _
 ·exact Ka.1 d k j f a b
end
