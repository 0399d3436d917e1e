import Derived.Test.YtbmhchdegdjfkaaGreatDoorKBSame
import Derived.Test.YtbmhchdegdjfkaaGreatDoorKBAppr
set_option maxRecDepth 100000
set_option maxHeartbeats 25600000
namespace Go.Proofs.YtbmhchdegdjfkaaGreatDoor
open Go.RowKit Go.Proofs.Tryz
section
variable {G : bW} {Kq : List Qz} {wz w w' : KH} {bb : Nat} {a : KG} {cap : Nat} {rd : KG} {rn rc : Nat} {mb mx : Nat} {ts : List Zk} {d : KG} {dc : Nat} {f : KC -> KI} {ws : KC -> List Nat}
theorem Ff{l a:List Q_}(c:l.length=a.length)(h:∀j,j<l.length->l.getD j Q_.zero=a.getD j Q_.zero):l=a:=by
 refine List.ext_getElem c fun i b f=>?_
 have:=h i b;simpa[List.getD,b,f] using this
theorem uK(K:BM G Kq wz w bb a cap rd rn rc mb mx ts d dc f ws)(b4:ts.length<=1048576)(a0:∀t∈ts,t.r.texts.length<=1048576)(L:KG)(gc:Nat)(c:List Q_)(_hsl:c.length<=1048576)(a1:∀r∈c,r.texts.length<=1048576)(hR:bK w L c):
  Calls prog 61 #[.slice d ts.length dc,.slice L c.length gc,.func (.func 62) #[] #[]] w fun e w'=>Says e (Qj ts=c)/\K_ w w':=by
 have M:=Kz K;clear K;have N:(Qj ts).length=ts.length:=by simp[Qj]
 have y:=Kz N;clear N;go_enter func61,ntmps61
 by_cases l:ts.length=c.length
 ·have a2:((ts.length:Int) != (c.length:Int))=false:=by simp[l]
  have q:=Kz l;clear l;go_wp2
  go_loopw [17] (fun A wr=>∃k:Nat,k<=ts.length/\A= .int .i64 k/\Hid (∀j,j<k->(Qj ts).getD j Q_.zero=c.getD j Q_.zero)/\K_ w wr) (fun A _=>ts.length-(intOf A).toNat)
  case atStart=>exact⟨0,Ja _,rfl,Kz fun j B=>aP B,K_.refl _⟩
  case round=>
   obtain⟨k,hk,rfl,O,m⟩:=hrel;by_cases s:k<ts.length
   ·obtain⟨g,a3,a4⟩:=(M.o.kept m).item s;obtain⟨b,o,xa,xc,a5,hb,h,C,_⟩:=hR.kept m k (by have:=q.o;omega);subst a3;subst a5;have i0:(k:Int)<(ts.length:Int):=by omega
    have i1:(k:Int)<(c.length:Int):=by have:=q.o;omega
    have i:=(M.o.kept m).fE ts[k] (Ji s);have D:(Qj ts).getD k Q_.zero= (ts[k]).r:=by simp[Qj,List.getD,s]
    have P:=a1 (c.getD k Q_.zero) (ze (by have:=q.o;omega));have Q:=a0 ts[k] (Ji s);obtain⟨a6,E⟩:=ah (c.getD k Q_.zero);obtain⟨t,R⟩:=ah (ts[k]);rw[<-E] at h P C;rw[<-R] at i a4 D Q;have⟨S,T⟩:=aD E D;obtain⟨n,v,F⟩:=ax i.txt;obtain⟨a7,b5,x,H⟩:=bi i.txt;have U:a7=n:=by rw[F] at x;simp only[JJ] at x;exact x.1.symm
    rw[U] at H;have V:wr.rangeAt t.tb 0 (t.r.cells n v):=fun j a8 W=>i.rng j a8 (by
     have e0:t.cells=t.r.cells n v++ [.int .i64 t.cost,.slice t.sa t.steps.length t.sc,.int .i64 (t.op:Int),t.qv,.string t.bl]:=by
      unfold Zk.cells Q_.cells;rw[F]
      rfl
     rw[e0];have a9:j<(t.r.cells n v).length:=(Je.1 W).1;rw[JU a9];exact W)
    have b0:=i.row.lt;have⟨b1,b2,b3⟩:=eB V H C;clear E R D F x U i H C V;have X:=h 0 _ rfl;have c1:=h 1 _ rfl;have c2:=h 2 _ rfl;have c3:=h 3 _ rfl;have c4:=h 4 _ rfl;have c5:=h 5 _ rfl;have c6:=h 6 _ rfl;simp only[JM] at X;clear h;go_wp2_with fail
    refine (xK _ t.tb t.r a6 n xa v xc (by simp <;> omega) (K_.range (ag wr _) b0 b1.o) Q P (b2.o.kept (ag wr _)) (b3.o.kept (ag wr _))).mono ?_;rintro e w1 ⟨I,Y⟩;have Z:K_ w w1:=m.trans (K_.trans (ag wr _) Y);clear Y X c1 c2 c3 c4 c5 c6;rcases I.cases with⟨rfl,p⟩ | ⟨rfl,p⟩
    ·have J:=Kz p;clear p I;go_wp2
     go_roundw
     case rel=>
      refine⟨k+1,by omega,by go_num,Kz fun j B=>?_,Z⟩;by_cases e:j=k
      ·rw[e,T.o,<-S.o];exact J.o
      ·exact O.o j (by omega)
     case measure=>simp[intOf];omega
    ·have J:=Kz p;clear p I;go_wp2
     go_ret
     refine⟨Says.no fun e=>J.o ?_,Z⟩;rw[<-T.o,S.o,e]
   ·go_wp2
    go_ret
    exact⟨Says.yes (Ff (by rw[y.o];exact q.o) fun j B=>O.o j (by have:=y.o;omega)),m⟩
 ·have a2:((ts.length:Int) != (c.length:Int))=true:=by simp;omega
  have HN:=Kz l;clear l;go_wp2
  go_ret
  exact⟨Says.no fun e=>HN.o (by rw[<-y.o,e]),K_.refl _⟩
end
theorem Ed{e:Ending}{P:Prop}(h:Says e P):∃b:Bool,e= .returned (.bool b)/\(b=true↔P):=by
 rcases h.cases with⟨rfl,a⟩|⟨rfl,a⟩
 ·exact⟨true,rfl,by simp[a]⟩
 ·exact⟨false,rfl,by simp[a]⟩
theorem gH.kept{w a:KH}(h:gH w)(k:K_ w a):gH a:=fun W give b c l d e f i j=>h W give b c l (k.trans d) e f i j
def ResB(Kq:List Qz)(Kj:List KC)(sl:List Q_)(a:KG)(cap:Nat)(rd:KG)(rc:Nat)(w w':KH)(e:Ending):Prop:=
 K_ w w'/\((¬(bu Kq 0/\fV Kj/\cZ sl)/\e= .returned (.tuple #[.pointer none,.bool false]))\/
  (bu Kq 0/\fV Kj/\cZ sl/\∃(wz:KH) (bb mb mx:Nat) (ts:List Zk) (d:KG) (dc:Nat) (f:KC->KI) (ws:KC->List Nat) (b:Bool),e= .returned (.tuple #[.pointer (some ⟨bb,0,none⟩),.bool b])/\K_ w wz/\BM (bW.no wz) Kq wz w' bb a cap rd Kj.length rc mb mx ts d dc f ws/\BS Kq ts ws/\mx<=9000/\(b=true↔Qj ts=sl)/\
   (∃k,bI (Behind (W:=Kk Kq) dx (Qq sl)) (doX (Kk Kq)) (Qq (b_ Kq Kj)) (Qq (Qj ts)) k)/\AtEnd (Behind (W:=Kk Kq) dx (Qq sl)) (Qq (Qj ts))))
theorem tH(w:KH)(a:KG)(k:Nat)(b:List Qz)(p:KG)(q:Nat)(Kj:List KC)(d:KG)(f:Nat)(c:List Q_)(hl:b.length<=1048576)(hf:∀s∈b,s.Fits)(c4:Kj.length<=maxLen)(c5:Kj.length<=q)(c6:∀s∈Kj,s.size<=maxLen)(T:c.length<=1048576)(c7:∀r∈c,r.texts.length<=1048576)(hS:bY w a b)(hR:Strs w p Kj)(U:bK w d c)(c8:gH w):
  Calls prog 26 #[.agg #[.slice a b.length k],.agg #[.slice p Kj.length q,.slice d c.length f]] w fun e w'=>ResB b Kj c a k p q w w' e:=by
 go_enter func26,ntmps26
 go_wp2_with fail
 have y:K_ w ((w.alloc (.cells #[.slice a b.length k] 25)).alloc (.cells #[.slice p Kj.length q,.slice d c.length f] 29)):=(ag _ _).alloc _;refine (Cf _ a k b p q Kj hl hf c4 c5 c6 (hS.kept y) (hR.kept y)).mono ?_;rintro e w1 ⟨F,c9⟩;have V:=y.trans F;have d0:=F.size;simp only[JG] at d0;have q1:=GA (w:=w.alloc (.cells #[.slice a b.length k] 25)) F;simp only[JG] at q1;obtain⟨p0,p1⟩:=q1;have d1:w.heap.size+1<w1.heap.size:=by omega
 rcases c9 with⟨a5,rfl⟩|⟨hW,a6,G,t,H,A,d3,dc,rfl,I,X,a7,a8⟩
 ·have Y:=Kz a5;clear a5;go_wp2
  go_ret2
  exact⟨V.alloc _,.inl ⟨fun v=>Y.o ⟨v.1,v.2.1⟩,rfl⟩⟩
 have⟨J,d4,Z,d5,d6⟩:=iU hW a6 X a7 a8;have B:=y.trans I;have q3:=GA (w:=w.alloc (.cells #[.slice a b.length k] 25)) I;simp only[JG] at q3;have sz:=q3.2;have d7:w.heap.size+1<G.heap.size:=by have:=I.size;simp only[JG] at this;omega
 clear q3;have f6:=X.row.lt;clear hW a6 X a7 a8 y F I;go_wp2_with fail
 refine (Ag _ d f c T (U.kept (V.alloc _))).mono ?_;rintro e w2 ⟨x,C⟩;have K2:K_ w w2:=(V.alloc _).trans C;have a9:K_ w1 w2:=K_.trans (ag _ _) C;have b0:=C.size;simp only[JG] at b0;have q2:=GA (w:=w1) C;obtain⟨g0,g1⟩:=q2;rcases x.cases with⟨rfl,D⟩|⟨rfl,D⟩;rotate_left
 ·have Y:=Kz D;clear D x;go_wp2
  go_ret2
  exact⟨K2,.inl ⟨fun v=>Y.o v.2.2,rfl⟩⟩
 have f7:=(a9.cell (o:=1) d1).trans p1;have b1:=kI J.o;have f8:qV b A<=1380:=by
  have:=vX (b.map (·.name)) (Qq (Qj A));rw[J_] at this;unfold qV;omega
 have HA:=Kz D;have d8:=Kz (Z.o.kept a9);have b2:Hid (tT w2 t H A (fun _=>.slice none 0 0) w1.heap.size):=⟨by omega,Z.o.far (IZ _)⟩;clear D x Z p0 p1 C;obtain⟨h,L⟩:=ah w1.heap.size;rw[<-L] at g0 g1 b0 b2;have f9:h<w2.heap.size:=by omega
 go_wp2_with fail
 rw[<-L];have g2:=Kz L;clear L;go_loopg [28] (qV b A) (fun gg g3 wr=>∃(mx:Nat) (l:List Zk) (d2:KG) (b4:Nat) (f2:KC->KI) (a0:KC->List Nat),wr.cell? ⟨h,0,none⟩=some (.slice d c.length f)/\wr.cell? ⟨h,1,none⟩=some (.func (.func 58) #[] #[])/\Hid (tT wr t H l f2 h)/\Hid (BM (bW.no G) b G wr t a k p Kj.length q H mx l d2 b4 f2 a0)/\Hid (BS b l a0)/\mx+6*qV b l<=9000/\gg=qV b l/\Hid (∃M,bI (Behind (W:=Kk b) dx (Qq c)) (doX (Kk b)) (Qq (b_ b Kj)) (Qq (Qj l)) M))
 case atStart=>exact⟨0,A,d3,dc,_,_,g0,g1,b2,d8,d5,by omega,rfl,Kz ⟨0,by rw[d6.o];exact .here _⟩⟩
 case round=>
  obtain⟨mx,l,d2,b4,f2,a0,v0,v1,d9,e0,e1,e2,rfl,e3⟩:=hrel;obtain⟨wO,rfl⟩:=ah wr;go_wp2_with fail
  refine (yA e0.o e1.o (dL J.o) hf b1 (uu J.o) (hS.kept B) (c8.kept B) d f c T HA.o (U.kept B) (Qq (b_ b Kj)) e3.o e2 (fun M=>M=h) (fun M hk=>by rw[hk];exact d9.o)).mono ?_;rintro e i ⟨b5,E,N,O,f3,b6,b3,rfl,m,b7,e4,b8,b9,a1,P⟩;obtain⟨a2,P⟩:=P h rfl;have u0:=(Jl (w:=wO) (a:=⟨h,0,none⟩) a2).trans v0;have u1:=(Jl (w:=wO) (a:=⟨h,1,none⟩) a2).trans v1;have K3:K_ w i:=B.trans m.kw;have⟨Q,R,c0,e5,e6⟩:=iU m b7 b8 b9 P;have e7:=m.c3;have e8:=m.row.lt;have g4:=m.kw.size;have s3:=(m.kw.cell (o:=1) d7).trans sz;have e9:w.heap.size+1<i.heap.size:=by omega
  clear m b7 b8 b9 P a2;cases b3;rotate_left
  ·have f0:=a1 rfl;clear a1;go_wp2
   go_roundg (qV b E)
   case measure=>exact f0
   case rel=>exact⟨b5,E,N,O,f3,b6,u0,u1,e6,Q,R,e4,rfl,c0⟩
  ·clear a1;have g5:=Q.o.len b1;go_upto_region 6 with fail
   have c1:∀w',K_ i w'->(fun w'=>w'.cell? ⟨t,3,none⟩=some (.slice N E.length O)/\w'.cell? ⟨w.heap.size+1,1,none⟩=some (.slice d c.length f)) w':=fun w' kk=>⟨(kk.cell e8).trans e7,(kk.cell e9).trans s3⟩
   have a3:=Kz c1;clear c1;refine Qk.region (by kernel_rfl) (fun w'=>w'.cell? ⟨t,3,none⟩=some (.slice N E.length O)/\w'.cell? ⟨w.heap.size+1,1,none⟩=some (.slice d c.length f)) 10 (a3.o _ (aG i)) (fun a4=>?_);have n:K_ i i.drew:=aG i;generalize f1:i.drew=wd at a4 n⊢;clear f1;refine aB 0 a4 ?_;refine aB 4 a4 ?_;refine ai 8 (fun K j=>?_);go_simp
   go_at_call 61
   refine (uK (Q.o.kept n) (by omega) (fun c2 ht=>by have g6:=(R.o.good.good c2.r (JQ ht)).tl;have g7:=(R.o.good.good c2.r (JQ ht)).hi;omega) d f c T c7 ((U.kept K3).kept n)).mono ?_;rintro e w4 ⟨x,S⟩;obtain⟨f4,rfl,c3⟩:=Ed x;have f5:=Kz c3;clear x c3;refine j.out _ _ (fun _=>a3.o _ (n.trans S)) ?_;clear j K;try simp only[Act.put,upA,upB,upC]
   refine af 9 (fun K j=>?_);go_simp
   refine j.out _ _ (fun _=>a3.o _ (n.trans S)) ?_;clear j K;try simp only[Act.put,upA,upB,upC]
   refine af 10 (fun K j=>?_);go_simp
   refine j.out _ _ (fun v=>Ki rfl v) ?_;clear j K;try simp only[Act.put,upA,upB,upC]
   refine ay ?_;go_wp2
   go_ret2
   refine⟨(K3.trans n).trans S,.inr ⟨J.o,d4.o,HA.o,G,t,H,b5,E,N,O,f3,b6,f4,rfl,B,Q.o.kept (n.trans S),R.o,by omega,f5.o,c0.o,e5.o (by trivial)⟩⟩
theorem wG{a:List Qz}{Kj:List KC}{b:List Q_}{c:List Zk}{n:KC->List Nat}(i:bu a 0)(p:fV Kj)(f:BS a c n)(q:∃k,bI (Behind (W:=Kk a) dx (Qq b)) (doX (Kk a)) (Qq (b_ a Kj)) (Qq (Qj c)) k)(h:AtEnd (Behind (W:=Kk a) dx (Qq b)) (Qq (Qj c))):Qj c=b↔fU a Kj b:=by
 have j:=(kL (dL i) Kj).wf;obtain⟨k,l⟩:=q;constructor
 ·intro e;refine⟨i,p,by rw[<-e];exact f.good.len,k,b,by rw[<-e];exact f.good, ?_, ?_,rfl⟩
  ·have d:=sZ (W:=Kk a) (τ :=Qq (Qj c)) (G:=Qq b) (by rw[e]) j l;rw[e] at d;exact d
  ·rw[e] at h;exact fun r m=>h r ⟨m.1,by obtain⟨s,g,d,t,v⟩:=m.2;exact⟨s,g,d,t,xm v⟩⟩
 ·rintro⟨_,_,_,A,L,w,x,y,rfl⟩;exact FB f.good.asc w.asc ((Eb j x y l h).2 rfl)
