import Derived.Test.YtbmhchdegdjfkaaGreatDoorKBBehind
import Derived.Test.YtbmhchdegdjfkaaGreatDoorKXTop
set_option maxRecDepth 100000
set_option maxHeartbeats 25600000
namespace Go.Proofs.YtbmhchdegdjfkaaGreatDoor
open Go.RowKit Go.Proofs.Tryz
def zH(W:dQ)(σ:Env)(ts:List Zk)(x:KI)(rest:List KC):Prop:=
 (x= .pointer none/\rest=[])\/∃(i:Nat) (hi:i<ts.length),x= .pointer (some ⟨ts[i].tb,0,none⟩)/\iN W σ ts[i].r.name (ts[i].r.name :: rest)
theorem Hg{i:List Qz}{b:List Zk}{p:KC->List Nat}(j:BS i b p){t:Zk}(k:t∈b){rest:List KC}(h:iN (Kk i) (Qq (Qj b)) t.r.name (t.r.name :: rest)):(rest=[]/\t.bl= ⟨#[]⟩)\/(1<=t.bl.size/\iN (Kk i) (Qq (Qj b)) t.bl rest):=by
 have c:=bn j.good.asc (JQ (f:=fun t:Zk=>t.r) k);have l:=j.bl t k;generalize m:t.r.name=q at h c;generalize n:q :: rest=w at h;cases h with
 | gone h=>rw[c] at h;cases h
 | own h ho hf hA hx=>
  rw[c] at h;cases h;cases n;rcases l with⟨e,_⟩|⟨_,_,⟨s,a,v,_⟩,d⟩
  ·exact .inl ⟨rfl,e⟩
  ·rw[m,hA] at a;cases a;rcases hx with e|e
   ·rw[v] at e;cases e
   ·rw[e] at d;exact Ki d.symm iV
 | more h ho hf hA hn2 ht2 hb2 hc=>
  rw[c] at h;cases h;cases n;rcases l with⟨_,e⟩|⟨_,_,_,d⟩
  ·rcases e ho hf with e|⟨s,a,e⟩
   ·rw[e] at ht2;exact Ki ht2.symm iV
   ·rw[m,hA] at a;cases a;rw[hn2] at e;cases e
  ·have e:=qW (ht2.symm.trans d);subst e;exact .inr ⟨hb2,hc⟩
theorem zH.next{d:List Qz}{a:List Zk}{b:KC}{rest:List KC}(h:iN (Kk d) (Qq (Qj a)) b rest){e:Ending}(i:Af a b e):∃x r',e= .returned x/\rest=b :: r'/\zH (Kk d) (Qq (Qj a)) a x r':=by
 obtain⟨r',rfl⟩:=h.head;rcases i with⟨j,k,c,rfl⟩|⟨l,rfl⟩
 ·exact⟨_,r',rfl,rfl,.inr ⟨j,k,rfl,by rw[c];exact h⟩⟩
 ·refine⟨_,r',rfl,rfl,.inl ⟨rfl, ?_⟩⟩;have c:=fJ.2 l;generalize f:b :: r'=m at h;cases h with
  | gone=>cases f;rfl
  | own=>cases f;rfl
  | more h=>rw[c] at h;cases h
section
variable {G : bW} {Kq : List Qz} {wz w w' : KH} {bb : Nat} {a : KG} {cap : Nat} {rd : KG} {rn rc : Nat} {mb mx : Nat} {ts : List Zk} {d : KG} {dc : Nat} {f : KC -> KI} {ws : KC -> List Nat}
theorem yt(Z:BM G Kq wz w bb a cap rd rn rc mb mx ts d dc f ws)(hS:BS Kq ts ws)(hl:ts.length<=1048576)(n:KC)(out:List KC)(hX:BQ (Kk Kq) (Qq (Qj ts)) n out)(a0:rq (Qq (Qj ts)))(x:out.length<=1400):
  Calls prog 41 #[.pointer (some ⟨bb,0,none⟩),.string n] w fun e w'=>(∃da c,e= .returned (.slice da out.length c)/\Strs w' da out)/\K_ w w':=by
 have⟨y,O,c1⟩:=eB Z hX a0;clear Z hX a0;go_enter func41,ntmps41
 go_wp2_with fail
 refine (iK y.o n hl).mono ?_;rintro e w1 ⟨⟨A,hi,B,rfl⟩|⟨a1,rfl⟩,j⟩;rotate_left
 ·have a2:=Kz (fJ.2 a1);clear a1;go_wp2
  go_ret
  have i:out=[]:=by
   rcases O.o with⟨_,h⟩|⟨r,h,_⟩|⟨r,h,_⟩
   ·exact h
   ·rw[a2.o] at h;cases h
   ·rw[a2.o] at h;cases h
  rw[i];exact⟨⟨none,0,rfl,fun P l=>by cases l⟩,j⟩
 obtain⟨t,m⟩:=ah (ts[A]);have a3:t∈ts:=by rw[m];exact Ji hi
 have C:=(y.o.kept j).fE t a3;have q0:w1.cell? ⟨t.tb,0,none⟩=some (.string t.r.name):=C.rng 0 _ rfl;have q2:w1.cell? ⟨t.tb,2,none⟩=some (.bool t.r.fail):=C.rng 2 _ rfl;have tz:=C.row.lt;rw[<-m] at B;have a4:ts[A].ptr= .pointer (some ⟨t.tb,0,none⟩):=by rw[<-m];rfl
 rw[a4];have E:Hid (Qq (Qj ts) n=some t.r):=by
  have h:=bn hS.good.asc (JQ (f:=fun t:Zk=>t.r) a3);rw[B] at h;exact h
 have a5:Hid (t=ts[A]):=m;have a6:=Kz B;clear m B a4 C;cases k:t.r.fail
 ·rw[k] at q2;have F:=Kz k;clear k;go_wp2
  go_ret
  have i:out=[]:=by
   rcases O.o with⟨_,h⟩|⟨r,_,_,h⟩|⟨r,h,_,H,_⟩
   ·exact h
   ·exact h
   ·rw[E.o] at h;cases h;rw[F.o] at H;cases H
  rw[i];exact⟨⟨none,0,rfl,fun P l=>by cases l⟩,j⟩
 rw[k] at q2;have F:=Kz k;clear k;obtain⟨I,a7⟩:∃J,out=n :: J/\iN (Kk Kq) (Qq (Qj ts)) n (n :: J):=by
  rcases O.o with⟨h,_⟩|⟨r,h,H,_⟩|⟨r,h,_,_,h4⟩
  ·rw[E.o] at h;cases h
  ·rw[E.o] at h;cases h;cases i:t.r.over
   ·have:=c1.o n t.r E.o i;rw[F.o] at this;cases this
   ·exact Ki ⟨i,F.o⟩ H
  ·obtain⟨J,e⟩:=h4.head;exact⟨J,e,by rw[<-e];exact h4⟩
 have Q:=Kz a7;clear a7;rw[a6.o] at q0;have K:Hid (zH (Kk Kq) (Qq (Qj ts)) ts (.pointer (some ⟨t.tb,0,none⟩)) I):= .inr ⟨A,hi,by rw[a5.o],by rw[<-a5.o,a6.o];exact Q.o.2⟩;have d9:I.length+1<=1400:=by have:=Q.o.1;rw[this] at x;simpa using x
 have a8:Hid (K_ w1 (w1.alloc (.cells #[.string n] 9))):=ag _ _;have a9:Hid ((w1.alloc (.cells #[.string n] 9)).ownsRow w1.heap.size 9 1 (.slice (some ⟨w1.heap.size,0,none⟩) 1 1) 1 ([n].map Value.string)):=World.ownsRow_lit w1 #[.string n] 1 (IZ _) (by decide) rfl;go_upto_region 5 with fail
 go_loopg [5,6] I.length (fun gg x5 x6 wr=>∃(D:List KC) (rest:List KC),gg=rest.length/\Hid (out=D++rest)/\Hid (zH (Kk Kq) (Qq (Qj ts)) ts x5 rest)/\K_ w1 wr/\Hid (wr.ownsRow w1.heap.size 9 1 x6 D.length (D.map Value.string)))
 case atStart=>exact⟨[n],I,rfl,Kz Q.o.1,K,a8.o,a9⟩
 case round=>
  clear a9 a8 K;obtain⟨D,rest,c2,L,K,p,M⟩:=hrel;obtain⟨R,S,rfl⟩:=ax M.o;have e0:D.length+rest.length<=1400:=by have h:=L.o;rw[h,JH] at x;exact x
  rcases K.o with⟨rfl,rfl⟩|⟨P,l,rfl,T⟩
  ·go_wp2
   go_ret
   obtain⟨c3,c4,q,s⟩:=bi M.o;simp only[JJ,true_and] at q;rw[<-q.1] at s;have i:=L.o;rw[List.append_nil] at i;rw[i];exact⟨⟨R,S,rfl,s⟩,j.trans p⟩
  obtain⟨u,U⟩:=ah (ts[P]);have b0:u∈ts:=by rw[U];exact Ji l
  rw[<-U] at T⊢;have V:=(y.o.kept j).fE u b0;have v:w1.cell? ⟨u.tb,11,none⟩=some (.string u.bl):=V.rng 11 _ rfl;have W:=V.row.lt;have b1:=Hg hS b0 T;clear T U V;obtain⟨b,b2⟩:=ah u.bl;rw[<-b2] at v b1;clear b2;have b3:Hid (∀w',K_ w1 w'->w'.cell? ⟨u.tb,11,none⟩=some (.string b)):=fun w' c5=>(c5.cell W).trans v
  clear v;have v:=b3.o wr p;have e1:u.tb<wr.heap.size:=I_ W p.size;rcases b1 with⟨rfl,rfl⟩|⟨c6,b4⟩
  ·go_wp2
   go_ret
   obtain⟨c3,c4,q,s⟩:=bi M.o;simp only[JJ,true_and] at q;rw[<-q.1] at s;have i:=L.o;rw[List.append_nil] at i;rw[i];exact⟨⟨R,S,rfl,s⟩,j.trans p⟩
  have e2:b.toList.isEmpty=false:=by
   cases h:b.toList.isEmpty
   ·rfl
   ·rw[List.isEmpty_iff] at h;have e:b.toList.length=b.size:=by simp[ByteArray.toList_eq]
    rw[h] at e;simp at e;omega
  have c7:=Kz b4;clear b4 c6;have c8:Hid (Strs (wr.alloc (.cells #[.string b] 9)) (some ⟨wr.heap.size,0,none⟩) [b]):=fun c9 hq=>by
   obtain rfl:c9=0:=by simpa using hq
   exact⟨wr.heap.size,0,rfl,by simp,X_ wr #[.string b] 9 0 _ rfl⟩
  have X:K_ wr (wr.alloc (.cells #[.string b] 9)):=ag _ _;have b5:=Kz (aj M.o X);have KK:=Kz (p.trans X);have d0:w1.heap.size<=(wr.alloc (.cells #[.string b] 9)).heap.size:=KK.out.size;obtain⟨ic,d1,d2,d3,d4⟩:=aO Tryz.dh;clear X;go_wp2_with (at_builtin;refine bP rfl (.tmp 35) (.tmp 40) 26 rfl w1.heap.size 9 ic _ 16 underlying26 d1 d2 d3 d4 rfl (.slice R D.length S) D.length (D.map Value.string) rfl b5.o (some ⟨wr.heap.size,0,none⟩) 1 [b] rfl c8.o (by unfold maxLen;simp;omega) (by simp;omega) d0 ?_;intro v' w4 Y b6 d5;have HP:=Kz Y;obtain⟨e3,e4,rfl⟩:=ax Y;have N:=aF KK.out (IZ _) b5.o b6;have d6:=b3.o w4 N;have e5:u.tb<w4.heap.size:=I_ W N.size;clear Y b6 d5)
  refine (iK (y.o.kept (j.trans N)) b hl).mono ?_;rintro e w5 ⟨b7,k5⟩;obtain⟨e6,r',rfl,b8,b9⟩:=zH.next c7.o b7;have⟨d7,c0⟩:=aD b9 b8;have d8:=Kz (aj HP.o k5);have K5:=N.trans k5;clear b9 b8 b7 d6 v;go_wp2
  go_roundg r'.length
  case measure=>rw[c2,c0.o];simp
  case rel=>exact⟨D++ [b],r',rfl,Kz (by rw[L.o,c0.o];simp),d7,K5,Kz (by rw[Km,JH];exact d8.o)⟩
end
theorem Ec(b:KC):(eG++b).extract 6 (6+b.size)=b:=ByteArray.extract_append_eq_right rfl rfl
def E_(W:dQ)(σ:Env)(name:KC)(L D:List KC)(nm:KC):Prop:=(D=[]/\nm=name)\/(D≠[]/\∃rest,L=D++rest/\iN W σ nm rest)
theorem E_.cases{W:dQ}{σ:Env}{i:KC}{L D:List KC}{c:KC}(j:BQ W σ i L)(h:E_ W σ i L D c):
  (σ c=none/\((D=[]/\L=[])\/(D≠[]/\L=D++ [c])))\/∃r,σ c=some r/\((¬(r.over=true/\r.fail=true)/\L=D)\/
   (r.over=true/\r.fail=true/\∃A,W c=some A/\((((stepOf A r.at').fin=true\/r.text=eY)/\L=D++ [c])\/
    ∃b l,(stepOf A r.at').fin=false/\r.text=eG++b/\L= (D++ [c])++l/\iN W σ b l))):=by
 rcases h with⟨rfl,rfl⟩|⟨k,rest,e,m⟩
 ·rcases j with⟨a,d⟩|⟨r,a,d,f⟩|⟨r,a,d,f,n⟩
  ·exact .inl ⟨a,.inl ⟨rfl,d⟩⟩
  ·exact .inr ⟨r,a,.inl ⟨d,f⟩⟩
  ·refine .inr ⟨r,a,.inr ⟨d,f, ?_⟩⟩;cases n with
   | gone h=>rw[a] at h;cases h
   | own h _ _ hA he=>
    rw[a] at h;cases h;exact⟨_,hA,.inl ⟨he,rfl⟩⟩
   | more h _ _ hA hn ht hb hc=>
    rw[a] at h;cases h;exact⟨_,hA,.inr ⟨_,_,hn,ht,rfl,hc⟩⟩
 ·cases m with
  | gone h=>exact .inl ⟨h,.inr ⟨k,e⟩⟩
  | own h ho hf hA he=>exact .inr ⟨_,h,.inr ⟨ho,hf,_,hA,.inl ⟨he,e⟩⟩⟩
  | more h ho hf hA hn ht hb hc=>exact .inr ⟨_,h,.inr ⟨ho,hf,_,hA,.inr ⟨_,_,hn,ht,by rw[e];simp,hc⟩⟩⟩
theorem eZ.grown{w w':KH}{b:Nat}{r:Q_}{xa:KG}{xc:Nat}(h:eZ w b r xa xc){base n:Nat}{v:KI}{d:List KI}(e:w.ownsRow base 9 1 v n d)(g:w.grownBy w' v.ownBlock):eZ w' b r xa xc:=by
 have c:w'.heap[b]? =w.heap[b]? :=g.block b h.row.lt (fun f=>aQ h.row.type (Y_ e f.symm) (by decide) rfl);exact⟨h.row.block c,fun j v i=>(Jl (w:=w) c).trans (h.rng j v i)⟩
def Im(Kq:List Qz)(Kj:List KC)(sl:List Q_)(name:KC)(w':KH)(e:Ending):Prop:=
 ∃(da:KG) (c:Nat) (ns:List KC),e= .returned (.slice da ns.length c)/\eD w' 9 da ns/\mq Kq Kj sl name ns
theorem zG(w:KH)(a:KG)(v:Nat)(j:List Qz)(L:KG)(R:Nat)(Kj:List KC)(d:KG)(S:Nat)(p:List Q_)(b0:KC)(b6:j.length<=1048576)(g2:∀y∈j,y.Fits)(g3:Kj.length<=1048576)(g4:∀s∈Kj,s.size<=maxLen)(e0:p.length<=1048576)(g5:∀x∈p,x.texts.length<=1048576)
  (hN:bY w a j) (hS:bK w d p) (hR:Strs w L Kj):
  Calls prog 16 #[.agg #[.slice a j.length v],.agg #[.slice L Kj.length R,.slice d p.length S],.string b0] w fun e w'=>Im j Kj p b0 w' e/\K_ w w':=by
 obtain⟨f,X⟩:=ah ((w.alloc (.cells #[.slice a j.length v] 25)).alloc (.cells #[.slice L Kj.length R,.slice d p.length S] 29));have kB:K_ w f:=by rw[X];exact (ag _ _).alloc _
 have g6:f.heap.size=w.heap.size+2:=by rw[X];simp
 have b2:f.cell? ⟨w.heap.size,0,none⟩=some (.slice a j.length v):=by rw[X,K_.cell (w:=w.alloc (.cells #[.slice a j.length v] 25)) (ag _ _) (by simp)];exact X_ w _ _ 0 _ rfl
 have s0:f.cell? ⟨w.heap.size+1,0,none⟩=some (.slice L Kj.length R):=by have:=X_ (w.alloc (.cells #[.slice a j.length v] 25)) #[.slice L Kj.length R,.slice d p.length S] 29 0 _ rfl;rw[JG] at this;rw[X];exact this
 have s1:f.cell? ⟨w.heap.size+1,1,none⟩=some (.slice d p.length S):=by have:=X_ (w.alloc (.cells #[.slice a j.length v] 25)) #[.slice L Kj.length R,.slice d p.length S] 29 1 _ rfl;rw[JG] at this;rw[X];exact this
 have z0:w.heap.size<f.heap.size:=by omega
 have z1:w.heap.size+1<f.heap.size:=by omega
 have HC:Hid (∀w',K_ f w'->w'.cell? ⟨w.heap.size,0,none⟩=some (.slice a j.length v)/\w'.cell? ⟨w.heap.size+1,0,none⟩=some (.slice L Kj.length R)/\w'.cell? ⟨w.heap.size+1,1,none⟩=some (.slice d p.length S)/\w.heap.size<w'.heap.size/\w.heap.size+1<w'.heap.size):=fun w' K=>⟨(K.cell z0).trans b2,(K.cell z1).trans s0,(K.cell z1).trans s1,I_ z0 K.size,I_ z1 K.size⟩
 have Y:K_ f (f.alloc (.cells #[] 9)):=ag _ _;have b7:Hid ((f.alloc (.cells #[] 9)).ownsRow f.heap.size 9 1 (.slice (some ⟨f.heap.size,0,none⟩) 0 0) 0 (([]:List KC).map Value.string)):=Jz f #[] 0 (IZ _) (Ja _) rfl;have m:=Kz kB;clear kB g6 b2 s0 s1;go_enter func16,ntmps16
 go_upto_region 1 with fail
 rw[<-X];clear X;go_upto_region 2 with fail
 obtain⟨WE,e3⟩:=ah (f.alloc (.cells #[] 9));rw[<-e3] at Y b7⊢;clear e3;obtain⟨b2,s0,s1,y0,y1⟩:=HC.o _ Y;go_wp2_with fail
 refine (jM _ a v j L R Kj d S p b6 g2 g3 g4 e0 g5 (hN.kept (m.o.trans Y)) (hS.kept (m.o.trans Y)) (hR.kept (m.o.trans Y))).mono ?_;rintro e w1 ⟨⟨bv,rfl,hv⟩,k1⟩;have HV:=Kz hv;have K1:=Y.trans k1;have e4:=Kz (aj b7.o k1);clear hv b2 s0 s1 y0 y1 b7 Y k1;cases bv
 ·go_wp2
  go_ret
  exact⟨⟨some ⟨f.heap.size,0,none⟩,0,[],rfl,.inl rfl,.inr ⟨fun h=>(by have:=HV.o.2 h;cases this),rfl⟩⟩,m.o.trans K1⟩
 have b8:=HV.o.1 rfl;have Z:=Kz b8;obtain⟨a4,hX,i4,_⟩:=b8.why b0;have a0:=Kz hX;clear b8 hX HV;go_upto_region 4 with fail
 go_loopg [2,7] (a4.length+1) (fun gg x2 x7 wr=>∃(D:List KC) (b:KC),x2= .string b/\gg+D.length=a4.length+1/\Hid (E_ (Kk j) (Qq p) b0 a4 D b)/\K_ f wr/\Hid (wr.ownsRow f.heap.size 9 1 x7 D.length (D.map Value.string)))
 case atStart=>exact⟨[],b0,rfl,rfl,Kz (.inl ⟨rfl,rfl⟩),K1,e4⟩
 case round=>
  clear e4;obtain⟨D,b,rfl,i5,g7,Kr,HO⟩:=hrel;obtain⟨av,cv,rfl⟩:=ax HO.o;obtain⟨c0,b9,c2,y0,y1⟩:=HC.o _ Kr;have i6:D.length<=1401:=by omega
  go_wp2_with fail
  refine (gQ wr L Kj.length R d S p b e0 (hS.kept (m.o.trans Kr))).mono ?_;rintro e w2 ⟨⟨i7,rfl,hp⟩,k2⟩;have K2:=Kr.trans k2;have b1:=Kz (aj HO.o k2);have k:=g7.o.cases a0.o;clear c0 b9 c2 y0 y1 k2;obtain⟨c0,b9,c2,y0,y1⟩:=HC.o _ K2;rcases hp with⟨t,hk,rfl,M,a5⟩|⟨rfl,M⟩;rotate_left
  ·rcases k with⟨_,k⟩|⟨r,hr,_⟩;rotate_left
   ·rw[M] at hr;cases hr
   have c1:=Kz M;clear M;rcases k with⟨rfl,A⟩|⟨hD,A⟩
   ·have q:=Kz A;clear A;go_wp2
    go_ret
    exact⟨⟨av,cv,[],rfl,(dw b1.o).1,.inl ⟨Z.o,by rw[<-q.o];exact a0.o⟩⟩,m.o.trans K2⟩
   ·have q:=Kz A;have i8:(0:Int)<(D.length:Int):=by have:=List.length_pos_iff.2 hD;omega
    clear A hD;have c3:Hid (Strs (w2.alloc (.cells #[.string b] 9)) (some ⟨w2.heap.size,0,none⟩) [b]):=fun a1 N=>by
     obtain rfl:a1=0:=by simpa using N
     exact⟨w2.heap.size,0,rfl,by simp,X_ w2 #[.string b] 9 0 _ rfl⟩
    have kV:K_ w2 (w2.alloc (.cells #[.string b] 9)):=ag _ _;have a6:=Kz (aj b1.o kV);have KK:=Kz (K2.trans kV);have c4:f.heap.size<=(w2.alloc (.cells #[.string b] 9)).heap.size:=KK.out.size;obtain⟨ic,c5,c6,c7,c8⟩:=aO Tryz.dh;clear kV;go_wp2_with (at_builtin;refine bP rfl (.tmp 25) (.tmp 27) 26 rfl f.heap.size 9 ic _ 16 underlying26 c5 c6 c7 c8 rfl (.slice av D.length cv) D.length (D.map Value.string) rfl a6.o (some ⟨w2.heap.size,0,none⟩) 1 [b] rfl c3.o (by unfold maxLen;simp;omega) (by simp;omega) c4 ?_;intro v' T a2 a7 c9;have HP:=Kz a2;obtain⟨U,V,rfl⟩:=ax a2;have B:=aF KK.out (IZ _) a6.o a7;clear a2 a7 c9)
    go_ret
    have a8:(D++ [b]).length=D.length+ [b].length:=by simp
    have ho:T.ownsRow f.heap.size 9 1 (.slice U (D++ [b]).length V) (D++ [b]).length ((D++ [b]).map Value.string):=by rw[a8,Km];exact HP.o
    exact⟨⟨U,V,D++ [b],by rw[a8];rfl,(dw ho).1,.inl ⟨Z.o,by rw[<-q.o];exact a0.o⟩⟩,m.o.trans B⟩
  obtain⟨r,hr⟩:=ah (p.getD t Q_.zero);rw[<-hr] at M a5;rcases k with⟨c,_⟩|⟨r',e5,k⟩
  ·rw[M] at c;cases c
  obtain rfl:r=r':=JR (M.symm.trans e5);clear e5;obtain⟨rb,ro,xa,xc,e1,i9,O,_,_⟩:=(hS.kept (m.o.trans K2)) t hk;rw[<-hr] at O;rw[e1] at c2;have t0:=O 0 _ rfl;have t1:=O 1 _ rfl;have t2:=O 2 _ rfl;have t3:=O 3 _ rfl;have t4:=O 4 _ rfl;have t5:=O 5 _ rfl;have t6:=O 6 _ rfl;rw[JM] at t0;have e6:(t:Int)<(p.length:Int):=by omega
  have⟨HR,d0,c1⟩:=eB hr k M;clear k M a5 O hr e1;obtain⟨H,b3⟩:=ah (w2.alloc (.cells #[.string r.name,.bool r.over,.bool r.fail,.string r.text,.int .i64 r.at',.int .i64 r.Zq,.slice xa r.texts.length xc] 40));have d1:Hid (eZ H w2.heap.size r xa xc):=by rw[b3];exact⟨au.made w2 _ _,X_ w2 _ _⟩
  have k3:K_ w2 H:=by rw[b3];exact ag _ _
  go_upto_region 10 with fail
  rw[<-b3];clear b3 t0 t1 t2 t3 t4 t5 t6 c0 b9 c2 y0 y1;have K3:=K2.trans k3;have d2:=Kz (aj b1.o k3);obtain⟨_,q1,q2,q3,q4,_,_⟩:=d1.o.all;have qz:=d1.o.row.lt;clear k3;by_cases a3:r.over=true/\r.fail=true;rotate_left
  ·have e7:a4=D:=by
    rcases d0.o with⟨_,h⟩|⟨c,C,_⟩
    ·exact h
    ·exact Ki ⟨c,C⟩ a3
   have q:=Kz e7;have g8:r.over=false\/(r.over=true/\r.fail=false):=by
    cases c:r.over
    ·exact .inl rfl
    ·cases C:r.fail
     ·exact .inr ⟨rfl,rfl⟩
     ·exact Ki ⟨c,C⟩ a3
   clear e7 a3;rcases g8 with c|⟨c,C⟩
   ·rw[c] at q1;go_wp2
    go_ret
    exact⟨⟨av,cv,D,rfl,(dw d2.o).1,.inl ⟨Z.o,by rw[<-q.o];exact a0.o⟩⟩,m.o.trans K3⟩
   ·rw[c] at q1;rw[C] at q2;go_wp2
    go_ret
    exact⟨⟨av,cv,D,rfl,(dw d2.o).1,.inl ⟨Z.o,by rw[<-q.o];exact a0.o⟩⟩,m.o.trans K3⟩
  have k:∃b4,Kk j b=some b4/\((((stepOf b4 r.at').fin=true\/r.text=eY)/\a4=D++ [b])\/∃E l,(stepOf b4 r.at').fin=false/\r.text=eG++E/\a4= (D++ [b])++l/\iN (Kk j) (Qq p) E l):=by
   rcases d0.o with⟨h,_⟩|⟨_,_,h⟩
   ·exact Ki a3 h
   ·exact h
  rw[a3.1] at q1;rw[a3.2] at q2;obtain⟨b4,hA,k⟩:=k;have d3:=Kz k;clear a3 k d0;have b1:=d2;have e8:=(Z.o.good.good r (bC c1.o).1).act;have e9:r.name=b:=(bC c1.o).2;clear e6;obtain⟨t,hk,a5,f1,rfl⟩:=fI hA;obtain⟨y,hy⟩:=ah (j.getD t Qz.zero);rw[<-hy] at hA;have ha:0<=r.at'/\r.at' < y.steps.length:=by
   obtain⟨A',f2,g9,c⟩:=e8;rw[e9,hA] at f2;cases f2;exact⟨g9,c⟩
  obtain⟨nb,nq,cs,e1,d4,k,na,nc,rfl,d5⟩:=hN t hk;subst e1;rw[<-hy] at k d5 a5;obtain⟨ix,b5⟩:∃ix:Nat,r.at'= (ix:Int):=⟨r.at'.toNat,by omega⟩;have h0:ix<y.steps.length:=by omega
  obtain⟨tb,tq,j0,e2,f3,d6,aa,ca,ac,cc,rfl,_,_,_⟩:=d5 ix h0;subst e2;obtain⟨s,hs⟩:=ah (y.steps.getD ix Xq.zero);rw[<-hs] at d6;have n1:=k 1 _ rfl;have n2:=k 2 _ rfl;have m5:=d6 5 _ rfl;have h1:Hid (stepOf ⟨y.cost,y.steps⟩ r.at'=s):=by show _=_;unfold stepOf;rw[b5,hs];rfl
  have f4:Hid ((j.getD t Qz.zero).name=b):=by rw[<-hy];exact a5
  have⟨f5,f6⟩:=aD f1 hA;have e6:(t:Int)<(j.length:Int):=by omega
  have j1:(ix:Int)<(y.steps.length:Int):=by omega
  rw[b5] at q4;rw[<-hy] at d3;have h2:=Kz b5;clear e8 e9 k d6 d5 hs hy a5 f1 hA ha b5;have c3:Hid (Strs (H.alloc (.cells #[.string b] 9)) (some ⟨H.heap.size,0,none⟩) [b]):=fun a1 N=>by
   obtain rfl:a1=0:=by simpa using N
   exact⟨H.heap.size,0,rfl,by simp,X_ H #[.string b] 9 0 _ rfl⟩
  have kV:K_ H (H.alloc (.cells #[.string b] 9)):=ag _ _;have a6:=Kz (aj b1.o kV);have KK:=Kz (K3.trans kV);have c4:f.heap.size<=(H.alloc (.cells #[.string b] 9)).heap.size:=KK.out.size;obtain⟨ic,c5,c6,c7,c8⟩:=aO Tryz.dh;clear kV;go_upto_region 13 with (at_builtin;refine bP rfl (.tmp 44) (.tmp 46) 26 rfl f.heap.size 9 ic _ 16 underlying26 c5 c6 c7 c8 rfl (.slice av D.length cv) D.length (D.map Value.string) rfl a6.o (some ⟨H.heap.size,0,none⟩) 1 [b] rfl c3.o (by unfold maxLen;simp;omega) (by simp;omega) c4 ?_;intro v' T a2 a7 c9;have HP:=Kz a2;obtain⟨U,V,rfl⟩:=ax a2;have B:=aF KK.out (IZ _) a6.o a7;have h3:=Kz ((d1.o.kept (ag _ _)).grown a6.o a7);clear a2 a7 c9)
  have j2:nb<T.heap.size:=I_ d4 (m.o.trans B).size;have W:Hid (∀w',K_ T w'->w'.cell? ⟨w.heap.size,0,none⟩=some (.slice (some ⟨nb,nq,none⟩) j.length v)/\w'.cell? ⟨nb,nq+t*3+1,none⟩=some (.int .i64 y.cost)/\w'.cell? ⟨nb,nq+t*3+2,none⟩=some (.slice (some ⟨tb,tq,none⟩) y.steps.length nc)):=fun w' K=>⟨(HC.o w' (B.trans K)).1,((m.o.trans (B.trans K)).cell d4).trans n1,((m.o.trans (B.trans K)).cell d4).trans n2⟩
  have f7:=Kz (hN.kept (m.o.trans B));have h4:tb<T.heap.size:=I_ f3 (m.o.trans B).size;have h5:Hid (∀w',K_ T w'->w'.cell? ⟨tb,tq+ix*8+5,none⟩=some (.bool s.fin)):=fun w' K=>((m.o.trans (B.trans K)).cell f3).trans m5
  have h6:=Kz (show w.heap.size<T.heap.size from I_ z0 B.size);have j3:=h6.o;clear q1 q2 q3 q4 qz n1 n2 m5;go_upto_region 13 with fail
  go_cut [10] from 48 to 55 (fun h7 wx=>∃ab,h7= .pointer (some ⟨ab,0,none⟩)/\K_ T wx/\wx.cell? ⟨ab,1,none⟩=some (.slice (some ⟨tb,tq,none⟩) y.steps.length nc)/\ab<wx.heap.size)
  case first=>
   refine bS 9 W.o fun P KD F=>?_
   refine aB 0 F ?_;refine bG 4 8 (fun K n=>?_) (fun K n=>?_)
   ·rw[Kg (by rfl)];go_simp
    go_at_call 44
    refine (dG P (some ⟨nb,nq,none⟩) v j b b6 (f7.o.kept KD)).mono ?_;rintro e G ⟨⟨a1,rfl,N⟩,k5⟩;have I:=KD.trans k5;obtain rfl:a1= (t:Int):=by
     rcases N with⟨k',_,e',_,c,C⟩|⟨_,c⟩
     ·rw[e',eO f4.o f5.o c C]
     ·rw[f6.o] at c;cases c
    clear N;dsimp only;refine n.out _ _ (fun _=>W.o _ I) ?_;clear n K;try simp only[Act.put,upA,upB,upC]
    clear F;have F:=W.o _ I;refine ae 5 F ?_;refine ae 6 F ?_;refine ae 7 F ?_;refine af 8 (fun K n=>?_);go_simp
    have Q:K_ G (G.alloc (.cells #[.int .i64 0,.slice none 0 0] 77)):=ag _ _;refine n.out _ _ (fun _=>W.o _ (I.trans Q)) ?_;clear n K;try simp only[Act.put,upA,upB,upC]
    have J:au (G.alloc (.cells #[.int .i64 0,.slice none 0 0] 77)) G.heap.size 77 2:=au.made G _ _;have KE:=I.trans Q;generalize h8:G.alloc (.cells #[.int .i64 0,.slice none 0 0] 77)=wE at J KE⊢;clear h8 Q;obtain⟨⟨_,v0⟩,f0⟩:=J.row.at (i:=0) (by omega);obtain⟨⟨_,v1⟩,h9⟩:=J.row.at (i:=1) (by omega);have vz:=J.lt;refine af 9 (fun K n=>?_);go_simp
    refine n.out _ _ (fun h=>Ki rfl h) ?_;clear n K;try simp only[Act.put,upA,upB,upC]
    refine ay ?_;go_wp2
    go_meet
    exact⟨G.heap.size,rfl,Below.setCell (Below.setCell KE (p:=⟨G.heap.size,0,none⟩) I.size _) (p:=⟨G.heap.size,1,none⟩) I.size _,aS (J.set _).row (by omega) _,by rw[size_setCell,size_setCell];exact vz⟩
   ·rw[Kg (by rfl)];go_simp
    have Q:K_ P (P.alloc (.cells #[.int .i64 0,.slice none 0 0] 77)):=ag _ _;have d7:=KD.trans Q;refine n.out _ _ (fun _=>W.o _ d7) ?_;clear n K;try simp only[Act.put,upA,upB,upC]
    refine ai 4 (fun K n=>?_);go_simp
    go_at_call 44
    refine (dG (P.alloc (.cells #[.int .i64 0,.slice none 0 0] 77)) (some ⟨nb,nq,none⟩) v j b b6 (f7.o.kept d7)).mono ?_;rintro e G ⟨⟨a1,rfl,N⟩,k5⟩;have I:=d7.trans k5;obtain rfl:a1= (t:Int):=by
     rcases N with⟨k',_,e',_,c,C⟩|⟨_,c⟩
     ·rw[e',eO f4.o f5.o c C]
     ·rw[f6.o] at c;cases c
    clear N;dsimp only;refine n.out _ _ (fun _=>W.o _ I) ?_;clear n K;try simp only[Act.put,upA,upB,upC]
    clear F;have F:=W.o _ I;refine ae 5 F ?_;refine ae 6 F ?_;refine ae 7 F ?_;have J:au G P.heap.size 77 2:=(au.made P #[.int .i64 0,.slice none 0 0] 77).kept k5;obtain⟨⟨_,v0⟩,f0⟩:=J.row.at (i:=0) (by omega);obtain⟨⟨_,v1⟩,h9⟩:=J.row.at (i:=1) (by omega);have vz:=J.lt;refine af 9 (fun K n=>?_);go_simp
    refine n.out _ _ (fun h=>Ki rfl h) ?_;clear n K;try simp only[Act.put,upA,upB,upC]
    refine ay ?_;go_wp2
    go_meet
    exact⟨P.heap.size,rfl,Below.setCell (Below.setCell I (p:=⟨P.heap.size,0,none⟩) KD.size _) (p:=⟨P.heap.size,1,none⟩) KD.size _,aS (J.set _).row (by omega) _,by rw[size_setCell,size_setCell];exact vz⟩
  case rest=>
   obtain⟨ab,rfl,Kx,j4,j5⟩:=hcut;obtain⟨w6,rfl⟩:=ah wc;have f8:=Kz (h3.o.kept Kx);obtain⟨_,_,_,q3,q4,_,_⟩:=f8.o.all;have qz:=f8.o.row.lt;have m5:=h5.o _ Kx;have j6:tb<w6.heap.size:=I_ h4 Kx.size;have f9:=Kz (aj HP.o Kx);have Q:=B.trans Kx;rw[h2.o] at q4;have a8:(D++ [b]).length=D.length+ [b].length:=by simp
   have d8:Hid (w6.ownsRow f.heap.size 9 1 (.slice U (D++ [b]).length V) (D++ [b]).length ((D++ [b]).map Value.string)):=by rw[a8,Km];exact f9.o
   have k:=d3.o;rw[h1.o] at k;have a9:=Kz a8;clear a8 f9 HP d3 W;rcases k with⟨he,A⟩|⟨E,l,hn,ht,A,hC⟩
   ·have q:=Kz A;have i0:s.fin=true\/(s.fin=false/\r.text=eY):=by
     rcases he with h|h
     ·exact .inl h
     ·cases c:s.fin
      ·exact .inr ⟨rfl,h⟩
      ·exact .inl rfl
    clear A he;rcases i0 with h|⟨h,C⟩
    ·rw[h] at m5;go_wp2
     go_ret
     exact⟨⟨U,V,D++ [b],by rw[a9.o];rfl,(dw d8.o).1,.inl ⟨Z.o,by rw[<-q.o];exact a0.o⟩⟩,m.o.trans Q⟩
    ·rw[h] at m5;rw[C] at q3;unfold eY at q3;go_wp2
     go_ret
     exact⟨⟨U,V,D++ [b],by rw[a9.o];rfl,(dw d8.o).1,.inl ⟨Z.o,by rw[<-q.o];exact a0.o⟩⟩,m.o.trans Q⟩
   ·rw[hn] at m5;have⟨q,i1,j7⟩:=eB A hC ht;rw[ht] at q3;have g0:(eG++E).size=6+E.size:=by rw[ByteArray.size_append];rfl
    have i2:((eG++E).toList == [115,112,101,110,116])=false:=by
     cases h:((eG++E).toList == [115,112,101,110,116])
     ·rfl
     ·have e:=congrArg List.length (eq_of_beq h);have e2:(eG++E).toList.length= (eG++E).size:=by simp[ByteArray.toList_eq]
      rw[e2,g0] at e;simp at e;omega
    obtain⟨tx,d9⟩:=ah (eG++E);rw[<-d9] at q3 g0 i2;have i3:=Kz d9;clear A hC ht d9;go_wp2
    go_roundg (gk-1)
    case measure=>have c:=congrArg List.length q.o;rw[JH,a9.o] at c;simp at c;omega
    case rel=>
     have g1:=congrArg List.length q.o;rw[JH,a9.o] at g1;simp only[Kt] at g1;refine⟨D++ [b],E,by rw[i3.o,Ec],by rw[a9.o,Kt];omega,Kz (.inr ⟨by simp,l,q.o,i1.o⟩),Q,Kz ?_⟩;have h:=d8.o;rw[show (.slice U (D++ [b]).length V:KI)= .slice U (D.length+1) V from by rw[a9.o];rfl] at h;exact h
