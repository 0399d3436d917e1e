import Derived.Test.YtppbfddlkfglgaaGreatDoorKDWork
import Derived.Test.YtppbfddlkfglgaaGreatDoorKHPlan
import Derived.Test.YtppbfddlkfglgaaGreatDoorKXClean
import Derived.Test.YtppbfddlkfglgaaGreatDoorCards
import Derived.Test.YtppbfddlkfglgaaGreatDoorTie
import Derived.Test.YtppbfddlkfglgaaGreatDoorKFLaid
import Derived.Lib.SmallJoins
set_option maxRecDepth 100000
set_option maxHeartbeats 25600000
namespace Go.Proofs.YtppbfddlkfglgaaGreatDoor
open Go.RowKit Go.Proofs.Tryz
theorem JR(w:QX)(a:QW)(cap:Nat)(l:List Qz)(c:QV)(z:l.length<=1048576)(v:dS w a l):
  Calls prog 24 #[.agg #[.slice a l.length cap],.string c] w λe w'=>e=.returned (.b (aR (Kk l) c))/\K_ w w':=by
 have f:K_ w (w.alloc (.cells #[.slice a l.length cap] 25)):=ai _ _;go_enter func24,ntmps24
 go_wp2
 go_loop [5] (λi=>∃k:Nat,k<=l.length/\i=.b k/\Hid (∀j,j<k->(l.getD j Qz.zero).name≠c)) (λi=>l.length-(intOf i).toNat)
 case atStart=>exact⟨0,Py _,rfl,Kz λj h=>aS h⟩
 case round=>
  obtain⟨k,A,rfl,m⟩:=hrel;by_cases r:k<l.length
  .obtain⟨b,o,B,rfl,C,d,D,E,rfl,x⟩:=(v.kept f) k r;obtain⟨s,n⟩:=aj (l.getD k Qz.zero);rw[<-n] at d;have y:=d 0 _ rfl;have F:=d 1 _ rfl;rw[Qp] at y;have p:=Kz n;clear d n x;cases t:(s.name.toList == c.toList)
   .go_wp2
    go_round
    case rel=>
     refine⟨k+1,A7,C8,Kz λj h=>?_⟩;by_cases e:j=k
     .rw[e,<-p.o];exact uC t
     .exact m.o j A7
    case measure=>simp[intOf];omega
   .have q:Hid (aR (Kk l) c=s.cost):=by
     show aR _ _=_;unfold aR;rw[xe r (by rw[<-p.o];exact iV t) m.o,<-p.o]
    go_wp2
    go_ret
    exact⟨by rw[q.o];rfl,f⟩
  .have q:Hid (aR (Kk l) c=0):=by
    show aR _ _=_;unfold aR;rw[uA λj h=>m.o j A7]
   go_wp2
   go_ret
   exact⟨by rw[q.o];rfl,f⟩
theorem IR{W:bf}{l:List aU}{i:Nat}(h:i<l.length):iH W (l.take (i+1))=iH W (l.take i)+aR W (l.getD i aU.zero).name:=by
 rw[PH h,qO];simp only[List.getD,PE h,QL]
theorem CR{W:bf}(h:∀n,0<=aR W n/\aR W n<=20):∀l:List aU,0<=iH W l/\iH W l<=20*(l.length:Int)
 |[]=>⟨Int.le_refl _,Int.le_refl _⟩
 |s :: l=>by
  have c:=CR h l;have d:=h s.name;have e:iH W (s :: l)=aR W s.name+iH W l:=by simp[iH]
  rw[e,Qn];omega
theorem CY(w:QX)(a:QW)(cap:Nat)(l:List Qz)(B:QW)(P:Nat)(s:List aU)(Q:l.length<=1048576)(C:dS w a l)(a2:s.length<=3000)(D:Ep w B s)(E:∀n,0<=aR (Kk l) n/\aR (Kk l) n<=20):
  Calls prog 7 #[.agg #[.slice a l.length cap],.slice B s.length P] w λe w'=>e=.returned (.b (iH (Kk l) s))/\K_ w w':=by
 obtain⟨h,j⟩:=aj (w.alloc (.cells #[.slice a l.length cap] 25));have p:K_ w h:=by rw[j];exact ai _ _
 have k:Hid (∀u,K_ h u->u.cell? ⟨w.heap.size,0,none⟩=some (.slice a l.length cap)/\w.heap.size<u.heap.size):=λu q=>by
  have F:w.heap.size<h.heap.size:=by rw[j];simp
  refine⟨(q.cell F).trans ?_,Px F q.size⟩;rw[j];exact X_ w _ _ 0 _ rfl
 have R:=Kz (C.kept p);have G:=Kz (D.kept p);have⟨H,S⟩:=aJ E p;clear C D E p;go_enter func7,ntmps7
 go_upto_region 1 with fail
 rw[<-j];clear j;go_wp2
 go_loopg [5,6] s.length (λT U V wr=>∃i:Nat,U=.b (iH (Kk l) (s.take i))/\V=.b (i:Int)/\i+T=s.length/\K_ h wr)
 case atStart=>exact⟨0,rfl,rfl,A7,K_.refl _⟩
 case round=>
  obtain⟨i,rfl,rfl,hi,f⟩:=hrel;by_cases a3:(i:Int)<(s.length:Int)
  .have t:i<s.length:=A7;have r:=Kz (IR (W:=Kk l) t);obtain⟨b,o,rfl,_,_⟩:=(G.o.kept f) i t;obtain⟨y,v⟩:=aj (s.getD i aU.zero);rw[<-v] at r;obtain⟨I,J⟩:=aj (iH (Kk l) (s.take i));have X:=CR H.o (s.take i);have a4:(s.take i).length<=3000:=F3;rw[<-J] at X r⊢;have x:Hid (∀u,K_ h u->u.cell? ⟨b,o+i*3+2,none⟩=some (.string y.name)/\b<u.heap.size):=λu q=>by
    obtain⟨b',o',e,Y,L⟩:=(G.o.kept q) i t;simp only[Ql,QS,and_true] at e;obtain⟨rfl,rfl⟩:=e;rw[<-v] at L;exact⟨L 2 _ rfl,Y⟩
   have Z:=H.o y.name;have z:=k.o _ f.drew;have M:=x.o _ f.drew;clear v J;go_wp2
   refine Qk.region C9 (λu=>u.cell? ⟨w.heap.size,0,none⟩=some (.slice a l.length cap)/\w.heap.size<u.heap.size/\u.cell? ⟨b,o+i*3+2,none⟩=some (.string y.name)/\b<u.heap.size) 9 ⟨z.1,z.2,M⟩ λc=>?_;have A:=f.drew;generalize a0:wr.drew=wd at c A⊢;clear a0 z M f;refine ax 0 c ?_;refine ae 4 c ?_;refine ae 5 c ?_;refine ae 6 c ?_;refine aD 7 λK m=>?_;go_simp
   go_at_call 24
   refine (JR wd a cap l y.name Q (R.o.kept A)).mono ?_;rintro e w2 ⟨rfl,k2⟩;obtain⟨N,O⟩:=aj (aR (Kk l) y.name);rw[<-O] at Z r⊢;have d:=A.trans k2;have a5:IntKind.i64.wrap (I+N)=I+N:=df A7 A7;clear O;dsimp only;refine af m (λ_=>⟨(k.o _ d).1,(k.o _ d).2,x.o _ d⟩) ?_;clear m K c;have c:=(show _/\_/\_/\_ from ⟨(k.o _ d).1,(k.o _ d).2,x.o _ d⟩);refine ae 8 c ?_;refine au 9 λK m=>?_;go_simp
   refine af m (λa1=>QK rfl a1) ?_;clear m K;refine aF ?_;go_wp2
   go_roundg (gk-1)
   case measure=>omega
   case rel=>exact⟨i+1,by rw[r.o],C8,A7,d⟩
  .have HE:Hid (s.take i=s):=Qd A7;rw[HE.o];go_wp2
   go_ret
   exact⟨rfl,S.o.trans f⟩
structure vk (L:List Qz)(Kj:List QV)(C:Int)(k:Nat)(p:xC):Prop where
 len:p.chain.length<=3000
 tk:0<=p.fe/\p.fe<=C
 ch:0<=iH (Kk L) p.chain/\iH (Kk L) p.chain<=p.fe
 wk:C<=k*p.fe
 bd:k*p.fe<=C+((k:Int)-1)*iH (Kk L) p.chain
 full:k=60->iH (Kk L) p.chain=p.fe
 w:∃T,DZ (Kk L) (b_ L Kj) k p.slots p.fe T p.chain
section
variable {L:List Qz}{Kj:List QV}{sl:List Q_}{o:Ao}{p q:xC}{k:Nat}
theorem Ci(a:bC L 0)(n:QV):0<=aR (Kk L) n/\aR (Kk L) n<=20:=by rw[tQ];exact lh (iC a) n
theorem Ja(a:bC L 0)(i:fJ Kj)(e:BC L Kj sl o)(j:1<=k/\k<=60)(b:qN L Kj k p):vk L Kj o.cost k p:=by
 obtain⟨⟨_,_,_,l⟩,b⟩:=b;rcases b with⟨_,_,T,c,_⟩|⟨n,_⟩
 .rw[Int.toNat_natCast] at c;obtain⟨q,f,_,d,r,h⟩:=Dk (iC a) j.1 c;rw[e.fin.one q,<-e.cost] at f h;have s:=(CR (Ci a) p.chain).1;have t:((k:Int)-1)*iH (Kk L) p.chain<=((k:Int)-1)*p.fe:=Int.mul_le_mul_of_nonneg_left d A7;have v:((k:Int)-1)*p.fe=k*p.fe-p.fe:=by rw[Int.sub_mul,Int.one_mul]
  exact⟨l,⟨A7,A7⟩,⟨s,d⟩,f,h,λw=>Int.le_antisymm d (r (by have:=kQ a;omega)),T,c⟩
 .exact QK ⟨a,i,A7,A7⟩ n
theorem KH(c:bC L 0)(a:BC L Kj sl o)(h:vk L Kj o.cost 1 p):p.fe=o.cost:=by
 obtain⟨T,d⟩:=h.w;obtain⟨e,f,b,_⟩:=Dk (iC c) (Pw _) d;rw[a.fin.one e,<-a.cost] at f b;have:=b rfl;omega
theorem IE(a:bC L 0){C:Int}(b:1<=k)(h:vk L Kj C k p)(g:vk L Kj C 60 q):q.fe<=p.fe:=by
 obtain⟨T,c⟩:=h.w;obtain⟨e,d⟩:=g.w;exact Jf (iC a) b A8 (kQ a) c d
theorem Gr(b:bC L 0)(a:BC L Kj sl o):0<=o.cost/\o.cost<=24000:=by
 have:=Ha (iC b) a.fin.1 (Pz a.fin.1.len (kQ b)) sl.length;rw[Qc,<-a.cost] at this;exact this.2.2
end
theorem Nc(w:QX)(a:QW)(cap:Nat)(Y:List UInt8)(hB:BytesAt w a Y)(e1:Y.length<=cap)(d2:jW w):
  Calls prog 3 #[.slice a Y.length cap] w λe w'=>e=.returned (.bool true)/\K_ w w':=by
 by_cases f4:(1048576:Int)<(Y.length:Int)
 .go_enter func3,ntmps3
  go_wp2
  go_ret
  exact⟨rfl,K_.refl _⟩
 go_enter func3,ntmps3
 go_wp2_with fail
 refine (BK _ a cap Y hB e1 A7).mono ?_;rintro e w1 ⟨k,l,L,g,c,Kj,f5,rfl,hL,d3,hG,a9,f6,d4,hT,k1⟩;obtain⟨Z,a0⟩:=aj (w1.alloc (.cells #[.slice k L.length l] 25));obtain⟨D,b0⟩:=aj w1.heap.size;have kA:K_ w1 Z:=by rw[a0];exact ai _ _
 have c4:=Kz (k1.trans kA);have I:Hid (∀u,K_ Z u->u.cell? ⟨D,0,none⟩=some (.slice k L.length l)/\D<u.heap.size):=λu b=>by
  have h:D<Z.heap.size:=by rw[a0,b0];simp
  refine⟨(b.cell h).trans ?_,Px h b.size⟩;rw[a0,b0];exact X_ w1 _ _ 0 _ rfl
 have m:=Kz (hG.kept kA).nodes;have r:=Kz (hT.strs.kept kA);have x:=Kz (d2.kept c4.o);have a1:Hid (∀d∈L,d.Fits):=λd hd=>(d3 d hd).fits A7
 have a2:Hid (∀c5∈Kj,c5.size<=maxLen):=λc5 hs=>by have:=d4 c5 hs;unfold maxLen;omega
 go_upto_region 4 with fail
 rw[<-a0,<-b0];clear a0 b0 d3 hG hT k1 kA d2 hB d4;obtain⟨y,z⟩:=I.o Z (K_.refl _);go_wp2_with fail
 refine (Am Z k l L (some ⟨g,0,none⟩) c Kj A7 a1.o A7 a2.o m.o r.o).mono ?_;rintro e w2 ⟨o,oa,oh,oc,oe,rfl,hA,_,_,k2⟩;obtain⟨J,a3⟩:=aj (w2.alloc (.cells #[.b o.code,.slice oa o.res.length oc,.slice oh o.chain.length oe,.b o.dZ,.b o.cost] 31));obtain⟨K,b1⟩:=aj w2.heap.size;have n:K_ w2 J:=by rw[a3];exact ai _ _
 have M:=k2.trans n;have I:Hid (∀u,K_ J u->u.cell? ⟨D,0,none⟩=some (.slice k L.length l)/\D<u.heap.size/\u.cell? ⟨K,0,none⟩=some (.b o.code)/\u.cell? ⟨K,4,none⟩=some (.b o.cost)/\K<u.heap.size):=λu b=>by
  have h:K<J.heap.size:=by rw[a3,b1];simp
  have s:=I.o u (M.trans b);have j:=X_ w2 #[.b o.code,.slice oa o.res.length oc,.slice oh o.chain.length oe,.b o.dZ,.b o.cost] 31;rw[<-a3,<-b1] at j;exact⟨s.1,s.2,(b.cell h).trans (j 0 _ rfl),(b.cell h).trans (j 4 _ rfl),Px h b.size⟩
 have c6:=Kz (c4.o.trans M);have m:=Kz (m.o.kept M);have r:=Kz (r.o.kept M);have x:=Kz (x.o.kept M);go_upto_region 5 with fail
 rw[<-a3,<-b1];clear a3 b1 k2 n M y z c4;obtain⟨y,z,N,O,P⟩:=I.o J (K_.refl _);rcases hA.2 with⟨hc,j,sl,hV⟩|⟨e2,ho⟩;rotate_left
 .have e3:(o.code == 9)=true:=by rw[ho];rfl
  clear ho hA;go_wp2_with fail
  refine (kX J k l L (some ⟨g,0,none⟩) c Kj 2 A7 a1.o D6 a9 a2.o (m.o.kept (K_.refl _)) (r.o.kept (K_.refl _)) (x.o.kept (K_.refl _))).mono ?_;rintro e E ⟨p,sp,rp,fp,Q,b2,b3,b4,R,_,_,_,rfl,b7,c7,kp⟩;obtain rfl:p=kF:=by
   rcases b7.2 with⟨s,_⟩|⟨_,s⟩
   .exact QK ⟨s.1,s.2.1⟩ e2
   .exact s
  have e4:(Instr.field 35 (.agg #[.b kF.code,.slice sp kF.slots.length b2,.b kF.fe,.b kF.out.code,.slice rp kF.out.res.length b3,.slice fp kF.out.chain.length b4,.b kF.out.dZ,.b kF.out.cost,.slice Q kF.chain.length R]) 0).run prog E=.ok (.b 9) E:=C9;go_wp2
  go_ret
  exact⟨rfl,c6.o.trans kp⟩
 have e3:(o.code == 9)=false:=by rcases hV.rest with⟨_,e,_⟩|⟨_,e,_⟩<;>rw[e]<;>rfl
 have f7:=Gr hc hV;have c8:=Kz hc;have c9:Hid (∀(a4:Nat)(p:xC),1<=a4/\a4<=60->qN L Kj a4 p->vk L Kj o.cost a4 p):=λa4 p=>Ja hc j hV
 have e5:Hid (∀p,vk L Kj o.cost 1 p->p.fe=o.cost):=λp=>KH hc hV
 clear hA hc j hV;go_wp2_with fail
 refine (kX J k l L (some ⟨g,0,none⟩) c Kj 60 A7 a1.o D6 a9 a2.o (m.o.kept (K_.refl _)) (r.o.kept (K_.refl _)) (x.o.kept (K_.refl _))).mono ?_;rintro e E ⟨p,sp,rp,fp,Q,b2,b3,b4,R,_,_,_,rfl,b7,c7,kp⟩;have d1:=Kz (c9.o 60 p A8 b7);obtain⟨A,a5⟩:=aj (E.alloc (.cells #[.b p.code,.slice sp p.slots.length b2,.b p.fe,.b p.out.code,.slice rp p.out.res.length b3,.slice fp p.out.chain.length b4,.b p.out.dZ,.b p.out.cost,.slice Q p.chain.length R] 35));obtain⟨fb,b8⟩:=aj E.heap.size;have n:K_ E A:=by rw[a5];exact ai _ _
 have S:=kp.trans n;have B:Hid (∀u,K_ A u->u.cell? ⟨D,0,none⟩=some (.slice k L.length l)/\D<u.heap.size/\u.cell? ⟨K,4,none⟩=some (.b o.cost)/\K<u.heap.size/\u.cell? ⟨fb,2,none⟩=some (.b p.fe)/\u.cell? ⟨fb,8,none⟩=some (.slice Q p.chain.length R)/\fb<u.heap.size):=λu b=>by
  have h:fb<A.heap.size:=by rw[a5,b8];simp
  obtain⟨T,F,_,h4,e6⟩:=I.o u (S.trans b);have j:=X_ E #[.b p.code,.slice sp p.slots.length b2,.b p.fe,.b p.out.code,.slice rp p.out.res.length b3,.slice fp p.out.chain.length b4,.b p.out.dZ,.b p.out.cost,.slice Q p.chain.length R] 35;rw[<-a5,<-b8] at j;exact⟨T,F,h4,e6,(b.cell h).trans (j 2 _ rfl),(b.cell h).trans (j 8 _ rfl),Px h b.size⟩
 have e7:=Kz (c6.o.trans S);have m:=Kz (m.o.kept S);have r:=Kz (r.o.kept S);have x:=Kz (x.o.kept S);have e8:=Kz (c7.cn.Pm.kept n);go_upto_region 8 with fail
 rw[<-a5,<-b8];clear a5 b8 kp n S y z N O P b7 c7 I c6;have e9:=d1.o.len;refine tu 15 B.o (a_ _) λf=>?_;have KD:K_ A A.drew:=a_ A;generalize f0:A.drew=wd at f KD⊢;clear f0;refine ae 0 f ?_;refine ae 1 f ?_;refine ae 2 f ?_;refine ae 4 f ?_;refine ae 5 f ?_;refine aD 3 λa6 C=>?_;go_simp
 go_at_call 7
 refine (CY wd k l L Q R p.chain A7 (m.o.kept KD) e9 (e8.o.kept KD) (Ci c8.o)).mono ?_;rintro e w4 ⟨rfl,k4⟩;rw[d1.o.full rfl];have G:=KD.trans k4;have f8:(p.fe != p.fe)=false:=A9;dsimp only;refine af C (λ_=>B.o _ G) ?_;clear C a6 f KD k4;have f:=B.o _ G;refine ax 6 f ?_;refine ae 12 f ?_;refine ae 13 f ?_;refine aD 10 λa6 C=>?_;go_simp
 go_at_call 6
 refine (kX w4 k l L (some ⟨g,0,none⟩) c Kj 1 A7 a1.o D6 a9 a2.o (m.o.kept G) (r.o.kept G) (x.o.kept G)).mono ?_;rintro e w5 ⟨q,sq,rq,fq,U,b9,c0,c1,V,_,_,_,rfl,a7,c2,kq⟩;have hq:=e5.o q (c9.o 1 q A8 a7);have K5:=G.trans kq;have f9:(o.cost != o.cost)=false:=A9;have e4:∀u,(Instr.field 35 (.agg #[.b q.code,.slice sq q.slots.length b9,.b q.fe,.b q.out.code,.slice rq q.out.res.length c0,.slice fq q.out.chain.length c1,.b q.out.dZ,.b q.out.cost,.slice U q.chain.length V]) 2).run prog u=.ok (.b o.cost) u:=λu=>by rw[<-hq];kernel_rfl
 clear a7 c2 kq hq;dsimp only;refine af C (λ_=>B.o _ K5) ?_;clear C a6 f G;have f:=B.o _ K5;refine ae 11 f ?_;refine ae 14 f ?_;refine au 15 λa6 C=>?_;go_simp
 refine af C (λs=>QK rfl s) ?_;clear C a6 f;refine aF ?_;go_wp2
 go_loopg [8] 5 (λgg x8 wr=>∃i:Nat,x8=.b (i:Int)/\1<=i/\i+gg=6/\K_ A wr)
 case atStart=>exact⟨1,rfl,Pw _,rfl,K5⟩
 case round=>
  obtain⟨i,rfl,f1,hi,W⟩:=hrel;clear K5;by_cases f2:(i:Int)<=5
  .obtain⟨y,z,N,O,P,b5,b6⟩:=B.o wr W;go_wp2_with fail
   refine (kX wr k l L (some ⟨g,0,none⟩) c Kj (i:Int) A7 a1.o D6 a9 a2.o (m.o.kept W) (r.o.kept W) (x.o.kept W)).mono ?_;rintro e w6 ⟨q,sq,rq,fq,U,b9,c0,c1,V,_,_,_,rfl,a7,c2,kq⟩;have H:=c9.o i q A7 a7;have d5:=IE c8.o f1 H d1.o;obtain⟨X,a8⟩:=aj (w6.alloc (.cells #[.b q.code,.slice sq q.slots.length b9,.b q.fe,.b q.out.code,.slice rq q.out.res.length c0,.slice fq q.out.chain.length c1,.b q.out.dZ,.b q.out.cost,.slice U q.chain.length V] 35));obtain⟨pb,c3⟩:=aj w6.heap.size;have n:K_ w6 X:=by rw[a8];exact ai _ _
   have K6:=W.trans (kq.trans n);have d6:Hid (∀u,K_ X u->u.cell? ⟨pb,2,none⟩=some (.b q.fe)/\u.cell? ⟨pb,8,none⟩=some (.slice U q.chain.length V)/\pb<u.heap.size):=λu b=>by
    have h:pb<X.heap.size:=by rw[a8,c3];simp
    have j:=X_ w6 #[.b q.code,.slice sq q.slots.length b9,.b q.fe,.b q.out.code,.slice rq q.out.res.length c0,.slice fq q.out.chain.length c1,.b q.out.dZ,.b q.out.cost,.slice U q.chain.length V] 35;rw[<-a8,<-c3] at j;exact⟨(b.cell h).trans (j 2 _ rfl),(b.cell h).trans (j 8 _ rfl),Px h b.size⟩
   have f3:=Kz (c2.cn.Pm.kept n);go_upto_region 14 with fail
   rw[<-a8,<-c3];clear a8 c3 kq n a7 c2 y z N O P b5 b6;obtain⟨y,z,N,O,P,b5,b6⟩:=B.o X K6;obtain⟨d0,d7,d8⟩:=d6.o X (K_.refl _);go_wp2_with fail
   refine (CY X k l L U V q.chain A7 (m.o.kept K6) H.len f3.o (Ci c8.o)).mono ?_;rintro e w7 ⟨rfl,k7⟩;have K7:=K6.trans k7;clear y z N O P b5 b6 d0 d7 d8;obtain⟨y,z,N,O,P,b5,b6⟩:=B.o w7 K7;obtain⟨d0,d7,d8⟩:=d6.o w7 k7;obtain⟨t,d9⟩:=aj q.fe;obtain⟨v,e0⟩:=aj (iH (Kk L) q.chain);have T:=H.tk;have F:=H.ch;have h3:=H.wk;have h4:=H.bd;rw[<-d9] at T F h3 h4 d5 d0;rw[<-e0] at F h4⊢;have m1:(i:Int)*t<=5*t:=Int.mul_le_mul_of_nonneg_right f2 T.1;have m2:0<=(i:Int)*t:=Int.mul_nonneg A7 T.1;have m3:0<=((i:Int)-1)*v:=Int.mul_nonneg A7 F.1;have m4:((i:Int)-1)*v<=5*v:=Int.mul_le_mul_of_nonneg_right A7 F.1;have g0:IntKind.i64.wrap ((i:Int)*t)= (i:Int)*t:=df A7 A7;have g1:IntKind.i64.wrap ((i:Int)-1)= (i:Int)-1:=df A7 A7;have g2:IntKind.i64.wrap (((i:Int)-1)*v)= ((i:Int)-1)*v:=df A7 A7;have g3:IntKind.i64.wrap (o.cost+((i:Int)-1)*v)=o.cost+((i:Int)-1)*v:=df A7 A7;have g4:¬((i:Int)*t<o.cost):=A7;have g5:¬(t<p.fe):=A7;have g6:¬(t<v):=A7;have g7:¬(o.cost+((i:Int)-1)*v<(i:Int)*t):=A7;clear T F h3 h4 m1 m2 m3 m4 d5 H d9 e0;go_wp2
   go_roundg (gk-1)
   case measure=>omega
   case rel=>exact⟨i+1,C8,A7,A7,K7⟩
  .go_wp2
   go_ret
   exact⟨rfl,e7.o.trans W⟩
open Go.RowKit Go.Deep Go.ChangeShapes
section
variable {H:Type}{enc:TypeId × QY -> H}{w:QX}{base:Nat}{spare:Nat -> Bool}{held:Bool}
theorem Tryz.cellsByte :prog.cellsOf 5=1:=C9
theorem JF{fuel:Nat}{cs:List QY}{x:DataW H×List MemPlace}(h:DataW.trod enc prog w base spare held fuel 22 cs=some x):
  ∃a bs cap,cs=[.slice a (bs:List UInt8).length cap]/\BytesAt w a bs/\bs.length<=maxLen/\bs.length<=cap:=by
 rcases open_ints underlying22 underlying5 Tryz.cellsByte h with⟨rfl,_⟩|⟨a,len,cap,b,rfl,_,j,v,k,_,f,l⟩
 .exact⟨none,[],0,rfl,λi c=>aS c,Py _,Py _⟩
 .have y:len<=b.length:=by rw[k];split<;>omega
  have d:((b.take len).map λn=>UInt8.ofNat n.toNat).length=len:=D7;refine⟨some a,(b.take len).map λn=>UInt8.ofNat n.toNat,cap,by rw[d],λi c=>?_,by rw[d];omega,by rw[d];exact j⟩;rw[d] at c;obtain⟨m,p,q⟩:=a;have r:q=none:=by simpa[Addr.add] using World.cell?_spot (f 0 A7)
  subst r;have e:=f i A7;rw[Qo] at e;refine⟨m,p,rfl,World.block_lt_of_cell? _ _ e,?_⟩;rw[e];have s:=l (b.getD i 0) (by simp[List.getD,(A7:i<b.length)]);simp[Lit.wf,IntKind.min,IntKind.max,IntKind.signed,IntKind.bits] at s;have t:(((b.take len).map λn=>UInt8.ofNat n.toNat).getD i 0)=UInt8.ofNat (b.getD i 0).toNat:=by simp[List.getD,c,(A7:i<b.length)]
  rw[t];simp;omega
end
open Go.ChangeShapes Go.WideShapes Go.ChangeAt Go.RowKit Go.Joins Go.ChangeMaps
theorem Tryz.Pp :ownKnob prog.godebug=none:=C9
theorem Tryz.JZ :laidOutB prog=true:=C9
theorem zU{w:QX}(h:o_ w):jW w:=λW give a b l k c d e f=>FP W give a b l c d e f (h.kept k)
theorem Fq(os:Os)(r:os.Started)(H:Type)(enc:TypeId×QY->H):
  ReturnsInHanded {} Tryz.checked os 3 .any (λw args=>(Rows.fnTimeSpec.pre enc prog f3 [] false w args/\laidMetH prog laid3 w)/\sizedMet enc prog f3 (OpenSpec.ofChange Rows.fnTimeSpec) false w args)
   (Rows.fnTimeSpec.post enc prog f3 false true false false):=by
 refine returnsInHanded_of_change_and (C:=Tryz.checked) (X:=λw _=>laidMetH prog laid3 w) (λ_ _ _ s h=>h.of_heap s) Tryz.Pp r C9 func3
  (ChangeSpec.witness_shaped (enc:=enc) (C:=Tryz.checked) (os:=os) (X:=λw _=>laidMetH prog laid3 w) false (World.doorLaid prog 400 os) #[J6] 8 rfl (World.shaped_of_RefB C9 C9) C9 C9 C9 (Ma os _)) ?_
 intro W base args y S T c d _ _ z _;have e:∀(j:Nat) t v,f3.params[j]? =some t->args[j]? =some v->Value.okWide prog W .any base t v:=c;have f:=d;obtain⟨A,U,i,B,rfl,V,Y⟩:=d;have k:DataW.TrodAll enc prog W 0 (λ_=>true) true f3.params.toList args.toList y A:=i;rw[params3] at k e;obtain⟨l,Z,d0,a0,D,q0,a1,rfl,rfl,m,E⟩:=trodAll_cons k;obtain⟨rfl,rfl,rfl⟩:=trodAll_nil E;obtain rfl:args= #[l]:=by cases args;simp_all
 obtain⟨rfl,rfl⟩:=trodVars_none B;have b:=m;have F:∀x∈D,x.block<W.heap.size:=by obtain⟨G,I⟩:=b;exact DataW.trod_lt G _ _ _ I
 obtain⟨J,K,L,rfl⟩:=okWide_slice underlying22 (e 0 22 l rfl rfl);obtain⟨a2,M⟩:=m;obtain⟨a,n,p,N,O,hl,P⟩:=JF M;have Q:Value.slice J K L=.slice a n.length p:=by simpa[Value.cells] using N
 rw[Q] at b f⊢;clear i c;refine (Nc W a p n O P (zU (DK z))).mono λa3 W' ⟨R,q⟩=>?_
 subst R;exact⟨_,rfl,_,_,_,[],_,[],f,trodAll_mk1 (shut_bool underlying4 _),(trodAll_cons_mk (Below.trod Tryz.JZ C9 (of_decide_eq_true C9) b q F) trodAll_mk0),rfl,Below.frame q _,λh=>by cases h⟩
theorem Jt :Rows.FnTimeSaid:=
 OpenClaim.holds_of_wide 3 f3 rfl rfl rfl rfl rfl rfl rfl ⟨rfl,rfl,rfl,rfl,rfl⟩ rfl rfl rfl rfl rfl C9 func3 C9
  (of_decide_eq_true C9) (by unfold Func.isWrapper;first|(rw[QI (by decide+kernel)];kernel_rfl)|(rw[QJ (by decide+kernel)];exact⟨rfl,rfl⟩))
  λa b H d _=>Fq a b H d
theorem timeCardHolds :Rows.FnTimeCardSaid:=
 Claim7.holds_tied_plain_at .later [] [.data,.data,.data] true Rows.fnTimeCard.stood.harness Rows.fnTimeCard.stood.looks
  Jt (λ_ h=>by cases h) C9 (λ_ h=>by cases h) fnTime_row_tie rfl ⟨rfl,rfl⟩ C9 rfl
  (λf b c d=>by
   obtain rfl:f=3:=Qv ((show prog.funcNamed Rows.fnTimeRow.func=some 3 by kernel_rfl).symm.trans c) |>.symm;obtain rfl:b=f3:=(Qv (func3.symm.trans d)).symm;exact⟨C9,λj t a=>by
    rw[params3] at a;have e:t∈[22]:=by simpa using Array.mem_of_getElem? a
    have i:([22].all λu=>!prog.wantsStandIn u)=true:=C9;exact (show prog.wantsStandIn t=false by simpa using List.all_eq_true.1 i t e)⟩)
  C9
