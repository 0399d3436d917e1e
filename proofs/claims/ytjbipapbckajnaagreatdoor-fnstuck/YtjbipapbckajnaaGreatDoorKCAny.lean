import Derived.Test.YtjbipapbckajnaaGreatDoorKBSeq
import Derived.Test.YtjbipapbckajnaaGreatDoorKLOutc
import Derived.Test.YtjbipapbckajnaaGreatDoorKXCirc
set_option maxRecDepth 100000
set_option maxHeartbeats 25600000
namespace Go.Proofs.YtjbipapbckajnaaGreatDoor
open Go.RowKit Go.Proofs.Tryz
section
variable {G : bV} {Kj : List Qq} {wz w w' : Pv} {bb : Nat} {a : Pt} {cap : Nat} {rd : Pt} {rn rc : Nat} {mb mx : Nat} {ts : List Zx} {d : Pt} {dc : Nat} {f : Ps -> Pw} {ws : Ps -> List Nat}
theorem JW{l l':List Qz}(b:l.length=l'.length)(h:∀j,j<l.length->l.getD j Qz.zero=l'.getD j Qz.zero):l=l':=by
 refine List.ext_getElem b λi a e=>?_
 have:=h i a;simpa[List.getD,a,e] using this
theorem yE(I:BM G Kj wz w bb a cap rd rn rc mb mx ts d dc f ws)(b3:ts.length<=1048576)(Y:∀t∈ts,t.r.texts.length<=1048576)(J:Pt)(Z:Nat)(sl:List Qz)(_hsl:sl.length<=1048576)(a0:∀r∈sl,r.texts.length<=1048576)(hR:fw w J sl):
  Calls prog 77 #[.slice d ts.length dc,.slice J sl.length Z,.func (.func 78) #[] #[]] w λe w'=>Says e (Qk ts=sl)/\K_ w w':=by
 have K:=Kz I;clear I;have L:(Qk ts).length=ts.length:=by simp[Qk]
 have x:=Kz L;clear L;go_enter func77,ntmps77
 by_cases i:ts.length=sl.length
 .have a1:((ts.length:Int) != (sl.length:Int))=false:=by simp[i]
  have p:=Kz i;clear i;go_wp2
  go_loopw [17] (λy wr=>∃k:Nat,k<=ts.length/\y= .a k/\Hid (∀j,j<k->(Qk ts).getD j Qz.zero=sl.getD j Qz.zero)/\K_ w wr) (λy _=>ts.length-(intOf y).toNat)
  case atStart=>exact⟨0,NS _,rfl,Kz λj z=>aT z,K_.refl _⟩
  case round=>
   obtain⟨k,hk,rfl,M,l⟩:=hrel;by_cases q:k<ts.length
   .obtain⟨g,a2,a3⟩:=(K.o.kept l).item q;obtain⟨b,o,xa,xc,a4,hb,c,A,_⟩:=hR.kept l k (by have:=p.o;omega);subst a2;subst a4;have i0:(k:Int)<(ts.length:Int):=A7;have i1:(k:Int)<(sl.length:Int):=by have:=p.o;omega
    have h:=(K.o.kept l).fE ts[k] (Oa q);have B:(Qk ts).getD k Qz.zero= (ts[k]).r:=by simp[Qk,List.getD,q]
    have N:=a0 (sl.getD k Qz.zero) (CO (by have:=p.o;omega));have O:=Y ts[k] (Oa q);obtain⟨a5,C⟩:=ai (sl.getD k Qz.zero);obtain⟨t,P⟩:=ai (ts[k]);rw[<-C] at c N A;rw[<-P] at h a3 B O;have⟨Q,R⟩:=aH C B;obtain⟨m,s,D⟩:=ay h.txt;obtain⟨a6,b4,v,E⟩:=bv h.txt;have S:a6=m:=by rw[D] at v;simp only[OG] at v;exact v.1.symm
    rw[S] at E;have T:wr.rangeAt t.tb 0 (t.r.cells m s):=λj a7 U=>h.rng j a7 (by
     have e0:t.cells=t.r.cells m s++ [.a t.cost,.slice t.sa t.steps.length t.sc,.a (t.op:Int),t.qv,.string t.bl]:=by
      unfold Zx.cells Qz.cells;rw[D]
      rfl
     rw[e0];have a8:j<(t.r.cells m s).length:=(NW.1 U).1;rw[OU a8];exact U)
    have a9:=h.row.lt;have⟨b0,b1,b2⟩:=fu T E A;clear C P B D v S h E A T;have V:=c 0 _ rfl;have c1:=c 1 _ rfl;have c2:=c 2 _ rfl;have c3:=c 3 _ rfl;have c4:=c 4 _ rfl;have c5:=c 5 _ rfl;have c6:=c 6 _ rfl;simp only[OJ] at V;clear c;go_wp2_with fail
    refine (Bj _ t.tb t.r a5 m xa s xc D7 (K_.range (ah wr _) a9 b0.o) O N (b1.o.kept (ah wr _)) (b2.o.kept (ah wr _))).mono ?_;rintro e w1 ⟨F,W⟩;have X:K_ w w1:=l.trans (K_.trans (ah wr _) W);clear W V c1 c2 c3 c4 c5 c6;rcases F.cases with⟨rfl,n⟩ | ⟨rfl,n⟩
    .have H:=Kz n;clear n F;go_wp2
     go_roundw
     case rel=>
      refine⟨k+1,A7,C8,Kz λj z=>?_,X⟩;by_cases e:j=k
      .rw[e,R.o,<-Q.o];exact H.o
      .exact M.o j A7
     case measure=>simp[intOf];omega
    .have H:=Kz n;clear n F;go_wp2
     go_ret
     refine⟨Says.no λe=>H.o ?_,X⟩;rw[<-R.o,Q.o,e]
   .go_wp2
    go_ret
    exact⟨Says.yes (JW (by rw[x.o];exact p.o) λj z=>M.o j (by have:=x.o;omega)),l⟩
 .have a1:((ts.length:Int) != (sl.length:Int))=true:=D6;have HN:=Kz i;clear i;go_wp2
  go_ret
  exact⟨Says.no λe=>HN.o (by rw[<-x.o,e]),K_.refl _⟩
end
theorem IL{e:Ending}{P:Prop}(h:Says e P):∃b:Bool,e= .returned (.bool b)/\(b=true↔P):=by
 rcases h.cases with⟨rfl,a⟩|⟨rfl,a⟩
 .exact⟨true,rfl,by simp[a]⟩
 .exact⟨false,rfl,by simp[a]⟩
theorem dA.kept{w wz:Pv}(h:dA w)(k:K_ w wz):dA wz:=λW give a b l c d e f i=>h W give a b l (k.trans c) d e f i
def ResB(Kj:List Qq)(Kk:List Ps)(sl:List Qz)(a:Pt)(cap:Nat)(rd:Pt)(rc:Nat)(w w':Pv)(e:Ending):Prop:=
 K_ w w'/\((¬(bF Kj 0/\eX Kk/\dz sl)/\e= .returned (.tuple #[.pointer none,.bool false]))\/
  (bF Kj 0/\eX Kk/\dz sl/\∃(wz:Pv) (bb mb mx:Nat) (ts:List Zx) (d:Pt) (dc:Nat) (f:Ps->Pw) (ws:Ps->List Nat) (b:Bool),e= .returned (.tuple #[.c bb,.bool b])/\K_ w wz/\BM (bV.no wz) Kj wz w' bb a cap rd Kk.length rc mb mx ts d dc f ws/\BS Kj ts ws/\mx<=9000/\(b=true↔Qk ts=sl)/\
   (∃k,bB (Behind (W:=Q_ Kj) dO (Qj sl)) (doX (Q_ Kj)) (Qj (eT Kj Kk)) (Qj (Qk ts)) k)/\AtEnd (Behind (W:=Q_ Kj) dO (Qj sl)) (Qj (Qk ts))))
theorem xk(w:Pv)(a:Pt)(cap:Nat)(Kj:List Qq)(rd:Pt)(rc:Nat)(Kk:List Ps)(b:Pt)(c:Nat)(sl:List Qz)(hl:Kj.length<=1048576)(hf:∀s∈Kj,s.Fits)(c2:Kk.length<=maxLen)(c3:Kk.length<=rc)(c4:∀s∈Kk,s.size<=maxLen)(P:sl.length<=1048576)(c5:∀r∈sl,r.texts.length<=1048576)(hS:bN w a Kj)(hR:Strs w rd Kk)(Q:fw w b sl)(c6:dA w):
  Calls prog 32 #[.agg #[.slice a Kj.length cap],.agg #[.slice rd Kk.length rc,.slice b sl.length c]] w λe w'=>ResB Kj Kk sl a cap rd rc w w' e:=by
 go_enter func32,ntmps32
 go_wp2_with fail
 have p:K_ w ((w.alloc (.cells #[.slice a Kj.length cap] 25)).alloc (.cells #[.slice rd Kk.length rc,.slice b sl.length c] 32)):=(ah _ _).alloc _;refine (yJ _ a cap Kj rd rc Kk hl hf c2 c3 c4 (hS.kept p) (hR.kept p)).mono ?_;rintro e q ⟨A,c7⟩;have R:=p.trans A;have c8:=A.size;simp only[OC] at c8;have q1:=Iy (w:=w.alloc (.cells #[.slice a Kj.length cap] 25)) A;simp only[OC] at q1;obtain⟨p0,p1⟩:=q1;have c9:w.heap.size+1<q.heap.size:=A7;rcases c7 with⟨a4,rfl⟩|⟨hW,a5,B,l,C,t,d0,dc,rfl,D,S,a6,a7⟩
 .have T:=Kz a4;clear a4;go_wp2
  go_ret2
  exact⟨R.alloc _,.inl ⟨λm=>T.o ⟨m.1,m.2.1⟩,rfl⟩⟩
 have⟨E,d1,U,d3,d4⟩:=jH hW a5 S a6 a7;have v:=p.trans D;have V:=Iy (w:=w.alloc (.cells #[.slice a Kj.length cap] 25)) D;simp only[OC] at V;have sz:=V.2;have d5:w.heap.size+1<B.heap.size:=by have:=D.size;simp only[OC] at this;omega
 clear V;have f4:=S.row.lt;clear hW a5 S a6 a7 p A D;go_wp2_with fail
 refine (DW _ b c sl P (Q.kept (R.alloc _))).mono ?_;rintro e F ⟨n,x⟩;have K2:K_ w F:=(R.alloc _).trans x;have a8:K_ q F:=K_.trans (ah _ _) x;have a9:=x.size;simp only[OC] at a9;have q2:=Iy (w:=q) x;obtain⟨g0,g1⟩:=q2;rcases n.cases with⟨rfl,y⟩|⟨rfl,y⟩;rotate_left
 .have T:=Kz y;clear y n;go_wp2
  go_ret2
  exact⟨K2,.inl ⟨λm=>T.o m.2.2,rfl⟩⟩
 have f5:=(a8.cell (o:=1) c9).trans p1;have b0:=nV E.o;have f6:uI Kj t<=1380:=by
  have:=Ad (Kj.map (·.name)) (Qj (Qk t));rw[OY] at this;unfold uI;omega
 have HA:=Kz y;have d6:=Kz (U.o.kept a8);have b1:Hid (xy F l C t (λ_=>.slice none 0 0) q.heap.size):=⟨A7,U.o.far (NQ _)⟩;clear y n U p0 p1 x;obtain⟨d,G⟩:=ai q.heap.size;rw[<-G] at g0 g1 a9 b1;have f7:d<F.heap.size:=A7;go_wp2_with fail
 rw[<-G];have f8:=Kz G;clear G;go_loopg [28] (uI Kj t) (λgg f9 wr=>∃(X:Nat) (i:List Zx) (d2:Pt) (b2:Nat) (Y:Ps->Pw) (Z:Ps->List Nat),J4 wr d 0 (.slice b sl.length c)/\J4 wr d 1 (.func (.func 74) #[] #[])/\Hid (xy wr l C i Y d)/\Hid (BM (bV.no B) Kj B wr l a cap rd Kk.length rc C X i d2 b2 Y Z)/\Hid (BS Kj i Z)/\X+6*uI Kj i<=9000/\gg=uI Kj i/\Hid (∃H,bB (Behind (W:=Q_ Kj) dO (Qj sl)) (doX (Q_ Kj)) (Qj (eT Kj Kk)) (Qj (Qk i)) H))
 case atStart=>exact⟨0,t,d0,dc,_,_,g0,g1,b1,d6,d3,A7,rfl,Kz ⟨0,by rw[d4.o];exact .here _⟩⟩
 case round=>
  obtain⟨X,i,d2,b2,Y,Z,v0,v1,d7,d8,d9,e0,rfl,e1⟩:=hrel;obtain⟨wO,rfl⟩:=ai wr;go_wp2_with fail
  refine (BX d8.o d9.o (cO E.o) hf b0 (nY E.o) (hS.kept v) (c6.kept v) b c sl P HA.o (Q.kept v) (Qj (eT Kj Kk)) e1.o e0 (λH=>H=d) (λH hk=>by rw[hk];exact d7.o)).mono ?_;rintro e f ⟨b3,z,I,J,f3,b4,e2,rfl,j,b5,e3,b6,b7,a0,L⟩;obtain⟨a1,L⟩:=L d rfl;have u0:=(Od (w:=wO) (a:=⟨d,0,none⟩) a1).trans v0;have u1:=(Od (w:=wO) (a:=⟨d,1,none⟩) a1).trans v1;have K3:K_ w f:=v.trans j.kw;have⟨M,N,b8,e4,e5⟩:=jH j b5 b6 b7 L;have e6:=j.c3;have e7:=j.row.lt;have g2:=j.kw.size;have s3:=(j.kw.cell (o:=1) d5).trans sz;have e8:w.heap.size+1<f.heap.size:=A7;clear j b5 b6 b7 L a1;cases e2;rotate_left
  .have e9:=a0 rfl;clear a0;go_wp2
   go_roundg (uI Kj z)
   case measure=>exact e9
   case rel=>exact⟨b3,z,I,J,f3,b4,u0,u1,e5,M,N,e3,rfl,b8⟩
  .clear a0;have g3:=M.o.len b0;go_upto_region 6 with fail
   have b9:∀w',K_ f w'->(λw'=>J4 w' l 3 (.slice I z.length J)/\J4 w' (w.heap.size+1) 1 (.slice b sl.length c)) w':=λw' kk=>⟨(kk.cell e7).trans e6,(kk.cell e8).trans s3⟩
   have a2:=Kz b9;clear b9;refine Qx.region C9 (λw'=>J4 w' l 3 (.slice I z.length J)/\J4 w' (w.heap.size+1) 1 (.slice b sl.length c)) 10 (a2.o _ (bD f)) (λa3=>?_);have k:K_ f f.drew:=bD f;generalize f0:f.drew=wd at a3 k⊢;clear f0;refine ax 0 a3 ?_;refine ax 4 a3 ?_;refine aF 8 (λK h=>?_);go_simp
   go_at_call 77
   refine (yE (M.o.kept k) A7 (λc0 ht=>by have g4:=(N.o.good.good c0.r (OP ht)).tl;have h2:=(N.o.good.good c0.r (OP ht)).hi;omega) b c sl P c5 ((Q.kept K3).kept k)).mono ?_;rintro e w4 ⟨n,O⟩;obtain⟨f1,rfl,c1⟩:=IL n;have f2:=Kz c1;clear n c1;refine af h (λ_=>a2.o _ (k.trans O)) ?_;clear h K;refine aj 9 (λK h=>?_);go_simp
   refine af h (λ_=>a2.o _ (k.trans O)) ?_;clear h K;refine aj 10 (λK h=>?_);go_simp
   refine af h (λm=>Pg rfl m) ?_;clear h K;refine aG ?_;go_wp2
   go_ret2
   refine⟨(K3.trans k).trans O,.inr ⟨E.o,d1.o,HA.o,B,l,C,b3,z,I,J,f3,b4,f1,rfl,v,M.o.kept (k.trans O),N.o,A7,f2.o,b8.o,e4.o (by trivial)⟩⟩
theorem Au{Kj:List Qq}{Kk:List Ps}{sl:List Qz}{ts:List Zx}{ws:Ps->List Nat}(d:bF Kj 0)(j:eX Kk)(b:BS Kj ts ws)(l:∃k,bB (Behind (W:=Q_ Kj) dO (Qj sl)) (doX (Q_ Kj)) (Qj (eT Kj Kk)) (Qj (Qk ts)) k)(c:AtEnd (Behind (W:=Q_ Kj) dO (Qj sl)) (Qj (Qk ts))):Qk ts=sl↔fK Kj Kk sl:=by
 have f:=(fH (cO d) Kk).wf;obtain⟨k,h⟩:=l;constructor
 .intro e;refine⟨d,j,by rw[<-e];exact b.good.len,k,sl,by rw[<-e];exact b.good, ?_, ?_,rfl⟩
  .have a:=w_ (W:=Q_ Kj) (τ :=Qj (Qk ts)) (G:=Qj sl) (by rw[e]) f h;rw[e] at a;exact a
  .rw[e] at c;exact λn i=>c n ⟨i.1,by obtain⟨r,g,a,m,p⟩:=i.2;exact⟨r,g,a,m,AJ p⟩⟩
 .rintro⟨_,_,_,v,L,q,s,t,rfl⟩;exact yF b.good.asc q.asc ((IK f s t h c).2 rfl)
open Go.RowKit Go.Shelf
attribute [local go_sem] Oper.semAt_some
theorem Du{Kj:List Qq}{σ:Env}{l:List Qz}{a:List Ps}(b:aX (Q_ Kj))(c:∀r∈l,r.Good Kj)(h:fM (Q_ Kj) σ l a):∀s∈a,s.size<=1048576:=λs d=>by
 obtain⟨r,e,rfl,_⟩:=(h.mem s).1 d;obtain⟨A,f,_⟩:=(c r e).act;have:=(b _ _ f).2.2.1;omega
attribute [local go_sem] Oper.semAt_some
def PkI(w1:Pv)(c:Nat)(Kj:List Qq)(ts:List Zx)(i:Nat)(W:Pv):Prop:=
 K_ w1 W/\c<W.heap.size/\∃(us:List Zx) (v:Pw),W.cell? ⟨c,0,none⟩=some v/\W.frozen? ⟨c,0,none⟩=false/\W.ownsRow (c+1) 70 1 v us.length (us.map λt=>Value.pointer (some ⟨t.tb,0,none⟩))/\fM (Q_ Kj) (Qj (Qk ts)) ((Qk ts).take i) (us.map λt=>t.r.name)/\∀t∈us,t∈ts
theorem PkI.calm{w1:Pv}{c:Nat}{Kj:List Qq}{ts:List Zx}{i B:Nat}(w:w1.heap.size<=c)(x:c<B):Calm B (PkI w1 c Kj ts i):=by
 constructor
 .rintro W o y ⟨k,a,h,v,j,m,d,n⟩;have f:=(K_.refl W).alloc o;exact⟨k.trans f,by rw[OC];omega,h,v,(f.cell a).trans j,(f.rules.2 c 0 a).trans m,(But.au (S:=λ_=>False) f).owns d (λ_ _=>id),n⟩
 .rintro W l o p z r s ⟨k,a,h,v,j,m,d,n⟩;have q:But (λb=>b=l) W (W.putObj l p):=⟨rfl,rfl,rfl,F9,λb _ e=>World.putObj_heap_other e⟩;refine⟨q.kept k (λb e=>by rw[e];omega),by rw[World.putObj_size];exact a,h,v,(jI p A7).trans j,(su p A7).trans m,q.owns d (λb t e=>?_),n⟩;have:=iE (Yz d t) (by rw[e];exact r);rw[s] at this;cases this
def Nt(Kj:List Qq)(ts:List Zx)(pick:Int)(w w':Pv)(e:Ending):Prop:=
 ∃us:List Zx,fM (Q_ Kj) (Qj (Qk ts)) (Qk ts) (us.map λt=>t.r.name)/\(∀t∈us,t∈ts)/\((us=[]/\e= .returned (.pointer none))\/∃h:pick.toNat % us.length<us.length,e= .returned (.c ((us[pick.toNat % us.length]).tb)))/\K_ w w'
theorem Tryz.Jc :(prog.info? 70).map (λi=>(i.zero,i.size,i.bytes))=some (some (.pointer none),1,8):=C9
variable {G : bV} {Kj : List Qq} {wz w w' : Pv} {bb : Nat} {a : Pt} {cap : Nat} {rd : Pt} {rn rc : Nat} {mb mx : Nat} {ts : List Zx} {d : Pt} {dc : Nat} {f : Ps -> Pw} {ws : Ps -> List Nat}
theorem Ew(hB:BM G Kj wz w bb a cap rd rn rc mb mx ts d dc f ws)(b7:BS Kj ts ws)(e2:ts.length<=60)(q:Int)(a7:0<=q)(_hp1:In64 q):
  Calls prog 57 #[.c bb,.a q] w λe w'=>Nt Kj ts q w w' e:=by
 have⟨P,b8⟩:=aH hB b7;refine (callsIn_wide (n:=9)).1 ?_;refine callsIn_of_wp_marks func57 rfl trivial ?_ rfl;simp only[ntmps57,List.size_toArray,OH,List.length_nil,Nat.reduceAdd,Nat.reduceSub,Array.replicate_succ,Array.replicate_zero,List.push_toArray,List.append_toArray,List.nil_append,List.cons_append]
 gi_wp2_with fail
 obtain⟨A,H⟩:∃A,w.alloc (.cells #[J3] 118)=A:=⟨_,rfl⟩;rw[H];have K0:K_ w A:=by rw[<-H];exact ah _ _
 have z0:A.heap.size=w.heap.size+1:=by rw[<-H];simp
 obtain⟨q0,q1,_⟩:=EY (w:=w) (v:= J3) (t:=118) (w1:=A) (by rw[H];exact K_.refl _);have e3:=P.o.row.lt;have a8:=(P.o.kept K0).c3;refine xg (vE bb d ts.length dc (oN ts) A7) rfl (enters_of func33 C9 rfl) (Gg A7) a8 (λ_=>rfl)
  (PkI w w.heap.size Kj ts) (λ_ _=>False) (λk=>PkI.calm (NQ _) A7) (λ_=>sj _)
  ⟨K0,A7,[],J3,q0,q1,OO _ _ _ _,fM.nil,λB ht=>by cases ht⟩
  (λk=>{tmps:= #[.c bb,.a q,undef,undef,.pointer none,.c w.heap.size,.c (oN ts k),.c bb,.func (.func 33) #[.c bb] #[],.c (oN ts k),undef,undef,undef,undef,undef,undef,undef,undef,undef,undef,undef,undef,undef,undef],defers:=[]}) ?assign (λk=>Ab (λg e=>by have:=(P.o.apart e).1;omega)) ?step ?done ?stop
 case assign=>
  intro b9 k W e4 hK
  gi_wp2
  exact hK
 case stop=>
  intro D c W _ l _;exact l.elim
 case step=>
  rintro k W Q ⟨x,z,b,v,I,J,i,j,s⟩;have a3:(Qk ts).take (k+1)= (Qk ts).take k++ [ts[k].r]:=by
   rw[NY (by simpa[Qk] using Q)];simp[Qk]
  rcases (P.o.kept x).sees b8.o Q with⟨hv,R⟩|⟨hn,R⟩;rotate_left
  .exact .inr ⟨hn,x,z,b,v,I,J,i,by rw[a3];exact j.no R,s⟩
  refine .inl ⟨hv, ?_⟩;have⟨HR,a9⟩:=aH R a3;clear hv R a3 s j i J I v b z x;clear W;rintro b9 W _ ⟨x,z,b,v,I,J,i,j,s⟩ e5;have c0:b.length<=60:=by
   have:=j.len;simp only[Oo,OY] at this;omega
  obtain⟨C,K,rfl⟩:=ay i;obtain⟨m,T⟩:=ai (ts[k]);have E:oN ts k=m.tb:=by rw[T];simp[oN,List.getD,Q]
  rw[E];rw[<-T] at HR a9;have c1:m∈ts:=by rw[T];exact Oa Q
  have⟨H3,U,X⟩:=fu i j s;clear i j s T E q0 q1 a8 H;obtain⟨ic,c2,c4,c5,c6⟩:=info_parts Tryz.Jc;have c7:w.heap.size+1<=W.heap.size:=A7;obtain⟨V,F⟩:=ai (W.alloc (.cells #[.c m.tb] 70));have Y:K_ W V:=by rw[F];exact ah _ _
  have Z:=Kz Y;have L:=Kz ((But.au (S:=λ_=>False) Y).owns H3.o (λ_ _=>id));have b0:w.heap.size+1<=V.heap.size:=NT c7 Y.size;have b1:Hid (∀a0 u,([.c m.tb]:List Pw)[a0]? =some u->V.cell? ((⟨W.heap.size,0,none⟩:Addr).add a0)=some u):=λa0 u hu=>by rw[OI,F];exact Xz W #[.c m.tb] 70 a0 u hu
  have c8:Hid (∀u∈([.c m.tb]:List Pw),u.oneCell'=true):=λu hu=>by simp only[OL,OM,or_false] at hu;subst hu;rfl
  have c9:Hid (KeepsOthers W V):=by rw[F];exact KeepsOthers.alloc _ _
  rw[F] at L b1 b0;have HV:=Kz F;clear Y F
  gi_wp2_with (gi_at_builtin;refine wpListIn_append_own _ rfl (.tmp 10) (.tmp 12) 118 rfl (w.heap.size+1) 70 ic _ 1 8 underlying118 c2 c4 c5 c6 rfl A8 (.slice C b.length K) b.length (b.map λB=>Value.pointer (some ⟨B.tb,0,none⟩)) rfl L.o ⟨W.heap.size,0,none⟩ 1 1 [.c m.tb] rfl rfl b1.o c8.o D5 A7 b0 ?_;intro v' t a4 a1 _;rw[<-HV.o] at a1 L;have a2:∀h,(Value.slice C b.length K).ownBlock=some h->w.heap.size+1<=h:=λh e=>(L.o.lt h e).1;have M:But (λh=>(Value.slice C b.length K).ownBlock=some h) V t:=But.aI a1 (λh e=>e);have a5:w.heap.size<V.heap.size:=NR z Z.o.size;have s9:J4 t w.heap.size 0 (.slice C b.length K):=(M.cell a5 (λe=>by have:=a2 _ e;omega)).trans ((Z.o.cell z).trans I);have f9:t.frozen? ⟨w.heap.size,0,none⟩=false:=(World.frozen?_of_block (w:=V) (a:=⟨w.heap.size,0,none⟩) (M.block w.heap.size a5 (λe=>by have:=a2 _ e;omega))).trans ((Z.o.rules.2 _ _ z).trans J);have z9:w.heap.size<t.heap.size:=NR a5 M.size;have d0:Hid (KeepsOthers W t):=c9.o.trans (KeepsOthers.of_grownBy a1 (λh o e ho=>iE (Yz L.o e) ho));have d1:Hid (K_ w t):=M.kept (x.trans Z.o) (λh e=>by have:=a2 h e;omega);have d2:=Kz a4;obtain⟨b2,b3,rfl⟩:=ay a4;clear a4 a1 a2 M)
  have d3:Hid (KeepsFrom A.heap.size W (t.setCell ⟨w.heap.size,0,none⟩ (.slice b2 (b.length+1) b3))):=(d0.o.trans (KeepsOthers.setCell _ _ _)).from _
  refine⟨d3.o,d1.out.setCell (NQ _) _,by rw[size_setCell];exact z9,b++ [m],_,OX _ _ _ s9,by rw[World.frozen?_setCell];exact f9, ?_, ?_, ?_⟩
  .have HO:t.ownsRow (w.heap.size+1) 70 1 (.slice b2 (b.length+1) b3) (b++ [m]).length ((b++ [m]).map λB=>Value.pointer (some ⟨B.tb,0,none⟩)):=by rw[OD,Pi];exact d2.o
   exact (But.set (S:=λh=>h=w.heap.size) (But.au (K_.refl t)) (p:=⟨w.heap.size,0,none⟩) rfl _).owns HO (λh e d4=>by have:=(HO.lt h e).1;omega)
  .rw[a9.o,Pi];exact U.o.yes HR.o
  .intro B ht;rcases N_.1 ht with l|l
   .exact X.o B l
   .simp at l;rw[l];exact c1
 case done=>
  rintro D W hD ⟨x,z,b,v,I,J,i,j,s⟩ b4;obtain⟨C,K,rfl⟩:=ay i;have a6:(Qk ts).take ts.length=Qk ts:=Oy (by simp[Qk]);rw[a6] at j;have c0:b.length<=60:=by
   have h6:=j.len;have h7:(Qk ts).length=ts.length:=by simp[Qk]
   simp only[OY] at h6;omega
  have b5:w.heap.size<=D:=A7;have d5:Hid (K_ w (W.putObj D (.deferred none))):=by
   have kb:But (λh=>h=D) W (W.putObj D (.deferred none)):=⟨rfl,rfl,rfl,F9,λh _ e=>World.putObj_heap_other e⟩;exact kb.kept x (λh e=>by rw[e];exact b5)
  have d6:Hid (K_ w (W.drew.putObj D (.deferred none))):=by
   have kb:But (λh=>h=D) W.drew (W.drew.putObj D (.deferred none)):=⟨rfl,rfl,rfl,F9,λh _ e=>World.putObj_heap_other e⟩;exact kb.kept x.drew (λh e=>by rw[e];exact b5)
  have⟨U,X⟩:=aH j s;by_cases N:b.length=0
  .have d7:((b.length:Int) == 0)=true:=by simpa using N
   have d8:Hid (b=[]):=Og.1 N;clear N i j s a6
   gi_wp2
   exact⟨A9,.inl ⟨_,_,rfl,run_takeDeferred b4,_,results_tmp rfl _ _ _,b,U.o,X.o,.inl ⟨d8.o,rfl⟩,d5.o⟩⟩
  have d7:((b.length:Int) == 0)=false:=by simpa using N
  obtain⟨y,O⟩:=ai (q.toNat % b.length);have b6:y<b.length:=by rw[O];exact Nat.mod_lt _ A7
  have e6:q.tmod (b.length:Int)= (y:Int):=by rw[Int.tmod_eq_emod_of_nonneg a7,O,Int.natCast_emod,Int.toNat_of_nonneg a7]
  obtain⟨g,rfl⟩:∃g,C=some ⟨g,0,none⟩:=by
   rcases i.2 with⟨e,d4⟩|⟨g,e7,e8,e,_⟩
   .omega
   .cases e;exact⟨g,rfl⟩
  have e9:g<W.heap.size:=(i.lt g rfl).2;have d9:J4 W g y (.c ((b[y]).tb)):=by
   have l:=i.cells (g:=g) rfl y (.c ((b[y]).tb)) (by simp[b6]);rw[OI,Ow] at l;exact l
  obtain⟨tb,E⟩:=ai ((b[y]).tb);rw[<-E] at d9;have e0:Hid (∃l:q.toNat % b.length<b.length,(b[q.toNat % b.length]).tb=tb):=⟨by rw[<-O];exact b6,by rw[E];congr 1;simp[O]⟩;have f0:¬(b.length:Int)=0:=A7;have f1:(y:Int)<(b.length:Int):=A7;clear N i j s a6 O E
  gi_wp2_with fail
  gi_region
  gi_wp2
  obtain⟨hh,e1⟩:=e0.o;exact⟨A9,.inl ⟨_,_,rfl,run_takeDeferred (w:=W.drew) b4,_,results_tmp rfl _ _ _,b,U.o,X.o,.inr ⟨hh,by rw[e1];rfl⟩,d6.o⟩⟩
def uR(W:Pv)(v:Pw)(ps:List (Nat×Ps)):bV:=⟨W,λk=>v.ownBlock=some k,ps,λ_=>False⟩
theorem yU{w w':Pv}{base size:Nat}{e:TypeId}{v:Pw}{n:Nat}{xs:List Pw}(h:w.ownsRow base e size v n xs)(a:∀k,v.ownBlock=some k->w'.heap[k]? =w.heap[k]?):w'.ownsRow base e size v n xs:=by
 refine⟨h.1, ?_⟩;rcases h.2 with b|⟨g,c,d,rfl,f,i,rest⟩
 .exact .inl b
 .exact .inr ⟨g,c,d,rfl,f,by rw[a g rfl];exact i,rest⟩
theorem EB{a:List Int}(h:∀p∈a,In64 p)(i:Nat):In64 (jB a i):=by
 unfold jB
 split
 .exact⟨A7,A7⟩
 .rename_i hne
  split
  .exact⟨A7,A7⟩
  .have d:0<a.length:=List.length_pos_iff.2 hne;have b:=Nat.mod_lt i d;have e:a.getD (i % a.length) 0∈a:=by
    simp only[List.getD,NV b,Ph];exact Oa b
   exact h _ e
section
variable {G : bV} {Kj : List Qq} {wz w w' W : Pv} {bb : Nat} {a : Pt} {cap : Nat} {rd : Pt} {rn rc : Nat} {mb mx : Nat} {ts : List Zx} {d : Pt} {dc : Nat} {f : Ps -> Pw} {ws : Ps -> List Nat} {v v' : Pw} {n n' : Nat} {xs xs' : List Pw} {ps : List (Nat × Ps)}
theorem BM.before(h:BM (uR w v ps) Kj wz W bb a cap rd rn rc mb mx ts d dc f ws)(b:W.ownsRow wz.heap.size 9 1 v n xs){t:Zx}(c:t∈ts):BM (uR W v [(t.tb,t.r.name)]) Kj wz W bb a cap rd rn rc mb mx ts d dc f ws:=
 h.as ⟨NQ _,λk e=>(b.lt k e).2,λ_ _=>rfl,h.oth.nb,h.oth.nm,h.oth.nt,h.oth.nf,λp i=>by obtain rfl:p= (t.tb,t.r.name):=(by simpa[uR] using i);exact⟨t,c,rfl,rfl⟩⟩ (λ_ _ h=>h.1)
theorem BM.walked(h:BM (uR w v ps) Kj wz W bb a cap rd rn rc mb mx ts d dc f ws)(r:W.ownsRow wz.heap.size 9 1 v n xs)(y:W.grownBy w' v.ownBlock)(i:∀g,v'.ownBlock=some g->v.ownBlock=some g\/W.heap.size<=g)(z:w'.ownsRow wz.heap.size 9 1 v' n' xs'):BM (uR w' v' []) Kj wz w' bb a cap rd rn rc mb mx ts d dc f ws:=by
 have F:=h.oth;have A:But (λc=>v.ownBlock=some c) W w':=But.aI y (λc e=>e);have B:=h.no.but A (λc e=>(r.lt c e).1) F.nb F.nm (λc m e=>by
  obtain⟨G,H,C⟩:=Yz h.items m;obtain⟨I,J,q⟩:=Yz r e;rw[C] at q;simp only[OE,Obj.cells.injEq] at q;exact Pg q.2.1 A8) (λs c m=>F.nf s c m) F.nt (λ_ _=>id)
 refine B.as ⟨NQ _,λk D=>(z.lt k D).2,λ_ _=>rfl,λe=>?_,λe=>?_,λt l=>⟨λe=>?_,λx j e=>?_⟩,λs x j e=>?_,λp E=>by cases E⟩ (λ_ _ h=>h.1)
 .rcases i bb e with b|b
  .exact F.nb b
  .exact (h.far b).1 rfl
 .rcases i mb e with b|b
  .exact F.nm b
  .exact (h.far b).2.1 rfl
 .rcases i t.tb e with b|b
  .exact (F.nt t l).1 b
  .exact ((h.far b).2.2.1 t l).1 rfl
 .rcases i x e with b|b
  .exact (F.nt t l).2 x j b
  .exact ((h.far b).2.2.1 t l).2 j
 .rcases i x e with b|b
  .exact F.nf s x j b
  .exact (h.far b).2.2.2 s j
theorem KG(hB:BM G Kj wz w bb a cap rd rn rc mb mx ts d dc f ws)(W:BS Kj ts ws)(X:aX (Q_ Kj))(c1:∀y∈Kj,y.Fits)(Y:Kj.length<=60)(c2:dI Kj)(hN:bN wz a Kj)(f9:mx<=80000)(c3:dA wz)(I:Pt)(Z:Nat)(h:List Int)(c4:h.length<=1048576)(a0:∀p∈h,In64 p)(hP:Ints wz I h):
  Calls prog 21 #[.c bb,.slice I h.length Z] w λe w'=>∃(D:List Ps) (i:Pt) (k l:Nat) (b:List Zx) (s:Pt) (v:Nat) (x:Ps->Pw) (n:Ps->List Nat),e= .returned (.slice i D.length k)/\BM (bV.no wz) Kj wz w' bb a cap rd rn rc mb l b s v x n/\BS Kj b n/\l<=90000/\vV Kj h (Qk ts) [] (Qk b) D/\D.length<=1380/\Strs w' i D:=by
 have g0:=AQ Kj (Qk ts);have a1:Hid (BM (uR w J3 []) Kj wz w bb a cap rd rn rc mb mx ts d dc f ws):=hB.as ⟨NQ _,λa2 J=>(by cases J),λ_ _=>rfl,λe=>(by cases e),λe=>(by cases e),λt _=>⟨λe=>(by cases e),λ_ _ e=>(by cases e)⟩,λ_ _ _ e=>(by cases e),λ_ j=>(by cases j)⟩ (λ_ _ j=>j.1);go_enter func21,ntmps21
 go_wp2
 go_loopg [5] (jX Kj (Qk ts)) (λgg x5 wr=>∃(D:List Ps) (i:Pt) (k l:Nat) (b:List Zx) (s:Pt) (v:Nat) (x:Ps->Pw) (n:Ps->List Nat),x5= .slice i D.length k/\Hid (BM (uR wr (.slice i D.length k) []) Kj wz wr bb a cap rd rn rc mb l b s v x n)/\Hid (BS Kj b n)/\l+6*gg<=88280/\Hid (gg=jX Kj (Qk b))/\Hid (Eu Kj h (Qk ts) (Qk b) D)/\Hid (wr.ownsRow wz.heap.size 9 1 (.slice i D.length k) D.length (D.map Value.string)))
 case atStart=>exact⟨[],none,0,mx,ts,d,dc,f,ws,rfl,a1,Kz W,A7,Kz rfl,Kz (Eu.start W.good),Kz (OO _ _ _ _)⟩
 case round=>
  clear a1;obtain⟨D,i,k,l,b,s,v,x,n,rfl,B,q,g1,a3,K,c5⟩:=hrel;have c6:D.length<=1380:=by have h1:=K.o.fits;omega
  have c7:=B.o.len Y;go_wp2_with fail
  refine (Fq wr I Z h _ D.length rfl A7 c4 a0 (hP.kept B.o.kw)).mono ?_;rintro e w1 ⟨rfl,k1⟩;obtain⟨p,z⟩:=ai (jB h D.length);have c8:0<=p:=by rw[z];exact Kb _ _
  have c9:Hid (In64 p):=by show In64 p;rw[z];exact EB a0 _
  rw[<-z];have d0:=Kz z;clear z;go_wp2_with fail
  refine (Ew (B.o.kept k1) q.o c7 p c8 c9.o).mono ?_;rintro e w2 ⟨C,E,L,d1,k2⟩;have K2:=k1.trans k2;have a4:=Kz (B.o.kept K2);have M:=Kz (ak c5.o K2);have d2:=Kz E;rcases d1 with⟨rfl,rfl⟩|⟨hh,rfl⟩
  .clear E L;go_wp2
   go_ret
   obtain⟨a9,g2,e9,h9⟩:=bv M.o;simp only[OG,true_and] at e9;rw[<-e9.1] at h9;exact⟨D,i,k,l,b,s,v,x,n,rfl,a4.o.no,q.o,A7,K.o.on _ _ (.stop d2.o),c6,h9⟩
  obtain⟨t,F⟩:=ai (C[p.toNat % C.length]);have N:t∈b:=by rw[F];exact L _ (Oa hh)
  have r:(C.map λt=>t.r.name).getD (mU h D.length (C.map λt=>t.r.name).length) ByteArray.empty=t.r.name:=by
   rw[F,OY];unfold mU;rw[<-d0.o];simp[List.getD,hh]
  have a5:=K.o.next X E (by rw[OY];omega);rw[r] at a5;obtain⟨d3,O,a6,a7,a8⟩:=a5;have b0:=bE q.o.good.asc (OP (f:=λt:Zx=>t.r) N);obtain rfl:t.r=d3:=OQ (b0.symm.trans O);obtain⟨b1,hi,b2⟩:=Oc N;have d4:Hid (b[b1]? =some t):=by show b[b1]? =some t;rw[NV hi,b2]
  rw[<-F];have⟨d5,d6,b3,d7⟩:=jW a6 a7 a8 O;clear F E L r a6 a7 a8 O b0 b2;go_wp2_with fail
  refine (uV (a4.o.before M.o N) q.o d4.o d5.o X c1 Y c2 hN A7 c3).mono ?_;rintro e c ⟨rfl,P,d8,d9,e0,e1,A,Q,b4⟩;obtain⟨t2,b5,R,e2⟩:=A.oth.has (t.tb,t.r.name) (by simp[uR]);have S:=A.fE t2 b5;have c0:c.cell? ⟨t.tb,0,none⟩=some (.string t.r.name):=by
   have j:=S.rng 0 _ rfl;rw[R,OJ] at j;rw[j];show some (Value.string t2.r.name)=_;rw[e2]
  have g3:t.tb<c.heap.size:=by have j:=S.row.lt;rw[R] at j;exact j
  have e3:=Kz (yU (w':=c) M.o (λa2 J=>A.oth.same a2 J));have T:Hid (Qk P=doL (Q_ Kj) (Qk b) t.r):=yF Q.good.asc (BJ q.o.good.asc) (by rw[b4,tN q.o.good.asc d7.o]);have⟨e4,e5⟩:=aH A Q;obtain⟨m,r⟩:=ai t.r.name;rw[<-r] at c0;have e6:=Kz r;clear A Q b4 S R e2 b5 r;have U:K_ c (c.alloc (.cells #[.string m] 9)):=ah _ _;have b6:=Kz (ak e3.o U);have b7:=Kz (e4.o.kept U);have e7:Hid (Strs (c.alloc (.cells #[.string m] 9)) (some ⟨c.heap.size,0,none⟩) [m]):=λe8 hj=>by
   obtain rfl:e8=0:=by simpa using hj
   exact⟨c.heap.size,0,rfl,A9,Xz c #[.string m] 9 0 _ rfl⟩
  have f0:wz.heap.size<=(c.alloc (.cells #[.string m] 9)).heap.size:=b7.o.kw.size;obtain⟨ic,f1,f2,f3,f4⟩:=aY Tryz.eP;clear U;go_wp2_with (at_builtin;refine fD rfl (.tmp 19) (.tmp 25) 26 rfl wz.heap.size 9 ic _ 16 underlying26 f1 f2 f3 f4 rfl (.slice i D.length k) D.length (D.map Value.string) rfl b6.o (some ⟨c.heap.size,0,none⟩) 1 [m] rfl e7.o H5 D6 f0 ?_;intro v' w4 H b8 b9;have f5:=Kz (b7.o.walked b6.o b8 b9 H);have f6:=Kz H;obtain⟨f7,f8,rfl⟩:=ay H;clear H b8 b9)
  go_roundg (jX Kj (Qk P))
  case measure=>rw[a3.o,T.o];exact b3.o
  case rel=>
   have V:(D++ [m]).length=D.length+1:=A9;refine⟨D++ [m],f7,f8,l+6,P,d8,d9,e0,e1,by rw[V], ?_,e5, ?_,Kz rfl, ?_, ?_⟩
   .rw[V];exact f5
   .have h1:=a3.o;have g4:=b3.o;rw[T.o];omega
   .rw[T.o,e6.o];exact d6
   .rw[V,Pi];exact f6
end
def NH(Kk:List Ps)(T:List Qz)(w w':Pv)(e:Ending):Prop:=
 ∃ra ds mid,e= .returned (.agg #[.slice ra Kk.length Kk.length,.slice ds T.length T.length])/\bW w' w.heap.size mid ra Kk/\iq w' mid w'.heap.size ds T/\w.heap.size<=mid/\mid<=w'.heap.size/\K_ w w'
structure StI (w1 wr:Pv) (ra:Pt) (n:Nat) (ds:Pt) (k dcs:Nat) (xs:List Pw):Prop where
 kw:K_ w1 wr
 row:aB wr w1.heap.size 32 2
 c0:wr.cell? ⟨w1.heap.size,0,none⟩=some (.slice ra n n)
 c1:wr.cell? ⟨w1.heap.size,1,none⟩=some (.slice ds k dcs)
 own:wr.ownsRow (w1.heap.size+1) 40 7 (.slice ds k dcs) k xs
section
variable {G : bV} {Kj : List Qq} {wz w w' : Pv} {bb : Nat} {a : Pt} {cap : Nat} {rd : Pt} {rc : Nat} {mb mx : Nat} {ts : List Zx} {d : Pt} {dc : Nat} {f : Ps -> Pw} {ws : Ps -> List Nat}
theorem vP(Kk:List Ps)(F:BM G Kj wz w bb a cap rd Kk.length rc mb mx ts d dc f ws)(d2:Kk.length<=1048576)(d3:∀s∈Kk,s.size<=1048576)(g4:ts.length<=60)(d4:∀t∈ts,t.r.name.size<=1048576/\t.r.text.size<=1048576/\t.r.texts.length<=1048576/\∀x∈t.r.texts,x.size<=1048576)(hR:Strs w rd Kk):
  Calls prog 22 #[.c bb] w λe w'=>NH Kk (Qk ts) w w' e:=by
 have d5:=F.c2;have b1:=F.c3;have zk:=F.row.lt;have O:=Kz F;obtain⟨d6,d7,d8,d9,e1⟩:=info_parts Tryz.Ei;clear F;go_enter func22,ntmps22
 go_wp2_with fail
 refine (jC _ rd rc Kk d2 d3 (hR.kept (ah _ _))).mono ?_;rintro e c ⟨n,rfl,Z,P⟩;have K1:K_ w c:=K_.trans (ah _ _) P;have z1:=P.size;simp only[OC] at z1 Z;have e2:Hid (aB c w.heap.size 32 2):=aB.kept (aB.made w #[J3,J3] 32) P;have q3:=(K1.cell zk).trans b1;have e3:=Kz Z;have g5:bb<c.heap.size:=A7;clear Z P d5 b1;go_wp2
 have KA:K_ c (c.alloc (.cells #[.slice n Kk.length Kk.length,J3] 32)):=ah _ _;have b2:Hid (StI c (c.alloc (.cells #[.slice n Kk.length Kk.length,J3] 32)) n Kk.length none 0 0 []):=by
  have hc:=Xz c #[.slice n Kk.length Kk.length,J3] 32;exact⟨KA,aB.made c #[.slice n Kk.length Kk.length,J3] 32,hc 0 _ rfl,hc 1 _ rfl,OO _ _ _ _⟩
 clear q3 KA;go_loopw [18] (λa0 wr=>∃k:Nat,k<=ts.length/\a0= .a k/\Hid (∃(v:Pt) (A:Nat) (H:List Pw),StI c wr n Kk.length v k A H/\df c (λ_=>True) H ((Qk ts).take k))) (λa0 _=>ts.length-(intOf a0).toNat)
 case atStart=>exact⟨0,NS _,rfl,Kz ⟨none,0,[],b2.o,df.nil _ _⟩⟩
 case round=>
  obtain⟨k,hk,rfl,b3⟩:=hrel;obtain⟨v,A,H,b4,b5⟩:=b3.o;have⟨h,Q⟩:=aH b4 b5;clear b4 b5 b3;have Kr:K_ w wr:=K1.trans h.o.kw;have zr:=h.o.kw.size;have a1:=h.o.row.lt;clear b2;by_cases I:k<ts.length
  .obtain⟨g,e4,e5⟩:=(O.o.kept Kr).item I;subst e4;have hT:=(O.o.kept Kr).fE ts[k] (Oa I);have b6:=(O.o.kept K1).fE ts[k] (Oa I);have e6:=(O.o.fE ts[k] (Oa I)).row.lt;obtain⟨j,l,a2⟩:=ay hT.txt;have a3:Strs c j ts[k].r.texts/\(j=none->l=0):=by
    have J:=b6.txt;obtain⟨g7,c9,e9,h9⟩:=bv J;rw[a2] at J e9;simp only[OG,true_and] at e9;rw[<-e9.1] at h9;exact⟨h9,(qE J).2.1⟩
   have b7:Hid ((Qk ts).take (k+1)= (Qk ts).take k++ [ts[k].r]):=by
    show (Qk ts).take (k+1)= (Qk ts).take k++ [ts[k].r];rw[NY (by simpa[Qk] using I)];simp[Qk]
   have q:wr.rangeAt ts[k].tb 0 (ts[k].r.cells j l):=λR e7 hv=>hT.rng R e7 (by
    have e0:ts[k].cells=ts[k].r.cells j l++ [.a ts[k].cost,.slice ts[k].sa ts[k].steps.length ts[k].sc,.a (ts[k].op:Int),ts[k].qv,.string ts[k].bl]:=by
     unfold Zx.cells Qz.cells;rw[a2]
     rfl
    rw[e0];have f0:R<(ts[k].r.cells j l).length:=(NW.1 hv).1;rw[OU f0];exact hv)
   obtain⟨i,b8⟩:=ai (ts[k].tb);obtain⟨r,hr⟩:=ai (ts[k].r);rw[<-b8] at e5 q e6;rw[<-hr] at q a3 b7;have b9:=Kz a3;have t0:=q 0 _ rfl;have t1:=q 1 _ rfl;have t2:=q 2 _ rfl;have t3:=q 3 _ rfl;have t4:=q 4 _ rfl;have t5:=q 5 _ rfl;have t6:=q 6 _ rfl;simp only[Ow] at t0 t1 t2 t3 t4 t5 t6;have m1:=h.o.c1;have g8:i<c.heap.size:=A7;clear hT b6 a2 a3 q hr b8;have g9:(k:Int)<(ts.length:Int):=A7;have T:Hid (∀w':Pv,(∀b,b<=c.heap.size->w'.heap[b]? =wr.heap[b]?)->(λw'=>J4 w' c.heap.size 1 (.slice v k A)/\J4 w' i 0 (.string r.name)/\J4 w' i 1 (.bool r.over)/\J4 w' i 2 (.bool r.fail)/\J4 w' i 3 (.string r.text)/\J4 w' i 4 (.a r.at')/\J4 w' i 5 (.a r.Zj)/\J4 w' i 6 (.slice j r.texts.length l)) w'):=λw' y=>⟨(Od (w:=wr) (y c.heap.size (NQ _))).trans m1,(Od (w:=wr) (y i A7)).trans t0,(Od (w:=wr) (y i A7)).trans t1,(Od (w:=wr) (y i A7)).trans t2,(Od (w:=wr) (y i A7)).trans t3,(Od (w:=wr) (y i A7)).trans t4,(Od (w:=wr) (y i A7)).trans t5,(Od (w:=wr) (y i A7)).trans t6⟩
   have h0:c.heap.size<wr.heap.size:=a1;go_upto_region 5 with fail
   refine wG 9 T.o (λ_ _=>rfl) (λB=>?_);have KD:K_ wr wr.drew:=bD wr;generalize f1:wr.drew=C at B KD⊢;clear f1;refine ax 0 B ?_;refine ae 4 B ?_;refine ae 5 B ?_;refine aj 6 (λK z=>?_);go_simp
   have U:K_ C (C.alloc (.cells #[.string r.name,.bool r.over,.bool r.fail,.string r.text,.a r.at',.a r.Zj,.slice j r.texts.length l] 40)):=ah _ _;have a4:=Xz C #[.string r.name,.bool r.over,.bool r.fail,.string r.text,.a r.at',.a r.Zj,.slice j r.texts.length l] 40;have L:=KD.trans U;have a5:∀b,b<=c.heap.size->(C.alloc (.cells #[.string r.name,.bool r.over,.bool r.fail,.string r.text,.a r.at',.a r.Zj,.slice j r.texts.length l] 40)).heap[b]? =wr.heap[b]? :=λb hb=>L.block b A7
   refine z.out _ _ (λ_=>T.o _ a5) ?_;clear z K B;obtain⟨eb,c4⟩:=ai C.heap.size;rw[<-c4] at a4⊢;generalize f2:C.alloc (.cells #[.string r.name,.bool r.over,.bool r.fail,.string r.text,.a r.at',.a r.Zj,.slice j r.texts.length l] 40)=w6 at a4 L a5⊢;clear f2 U c4;have c5:=Kz ((But.au (S:=λ_=>False) L).owns h.o.own (λ_ _=>id));have h1:=L.size;try simp only[upP]
   refine aj 7 (λK z=>?_);refine step_append_lies _ rfl (.tmp 23) (.tmp 28) 30 rfl (c.heap.size+1) 40 d6 _ 7 80 underlying30 d7 d8 d9 e1 rfl A8 (.slice v k A) k H D9 c5.o ⟨eb,0,none⟩ 1 1 (r.cells j l) D9 rfl (λR u hu=>by rw[OI];exact a4 R u hu) (Qz.one r j l) A7 D5 A7 A7 _ rfl ?_;intro g6 a6 M a7 c6 f3 h2;have c7:∀b,(Value.slice v k A).ownBlock=some b->c.heap.size+1<=b:=λb e=>(c5.o.lt b e).1
   have a9:But (λb=>(Value.slice v k A).ownBlock=some b) w6 M:=But.aI c6 (λb e=>e);have V:∀b,b<=c.heap.size->M.heap[b]? =wr.heap[b]? :=λb hb=>(a9.block b A7 (λe=>by have:=c7 b e;omega)).trans (a5 b hb)
   have W:aB M c.heap.size 32 2:=h.o.row.block (V _ (NQ _));obtain⟨⟨_,f4⟩,f5⟩:=W.row.at (i:=1) A7;have h3:=a9.size;have f6:Hid (StI c (M.setCell ⟨c.heap.size,1,none⟩ (.b g6 (k+1) a6)) n Kk.length (some ⟨g6,0,none⟩) (k+1) a6 (H++r.cells j l)):=by
    refine⟨(a9.kept (h.o.kw.trans L) (λb e=>by have:=c7 b e;omega)).setCell (NQ _) _,W.set _, ?_,bu W.row A7 _, ?_⟩
    .rw[Xx A7];exact (Od (w:=wr) (V _ (NQ _))).trans h.o.c0
    .exact (But.set (S:=λb=>b=c.heap.size) (But.au (K_.refl M)) (p:=⟨c.heap.size,1,none⟩) rfl _).owns a7 (λb e h4=>by have:=(a7.lt b e).1;omega)
   refine af z (λ_=>T.o _ V) ?_;clear z K a7 c6 f3 W;have B:=T.o _ V;refine ae 8 B ?_;refine aj 9 (λK z=>?_);go_simp
   refine af z (λJ=>Pg rfl J) ?_;clear z K;refine aG ?_;go_wp2
   go_roundw
   case rel=>exact⟨k+1,A7,C8,Kz ⟨_,a6,_,f6.o,by rw[b7.o];exact Q.o.snoc b9.o.1 b9.o.2 (λ_ _=>trivial)⟩⟩
   case measure=>simp[intOf];omega
  .have f7:k=ts.length:=A7;subst f7;have X:Hid ((Qk ts).length=ts.length):=by show (Qk ts).length=ts.length;simp[Qk]
   have c8:(Qk ts).take ts.length=Qk ts:=Oy (by rw[X.o];exact NQ _);rw[c8] at Q;have f8:Hid (fw wr v (Qk ts)):=by
    obtain⟨_,a8,h5,e8,h8⟩:=df.runs h.o.own Q.o h.o.kw;simp only[OG] at e8;rw[<-e8.1] at h8;exact h8.runs
   have f9:Hid (∀s∈Qk ts,s.name.size<=1048576/\s.text.size<=1048576/\s.texts.length<=1048576/\∀x∈s.texts,x.size<=1048576):=λs hs=>by
    obtain⟨t,ht,rfl⟩:=Oq.1 hs;exact d4 t ht
   have m0:=h.o.c0;have m1:=h.o.c1;clear c8 Q;go_wp2_with fail
   have b0:=BG wr v A (Qk ts) (by rw[X.o];omega) f9.o f8.o;rw[X.o] at b0;refine b0.mono ?_;clear b0;rintro e N ⟨D,rfl,d0,E⟩;have d1:=h.o.row.kept E;have n0:=(E.cell a1).trans m0;obtain⟨⟨_,f4⟩,f5⟩:=d1.row.at (i:=1) A7;have Y:aB N w.heap.size 32 2:=(e2.o.kept h.o.kw).kept E;obtain⟨⟨_,fa⟩,fb⟩:=Y.row.at (i:=0) A7;obtain⟨⟨_,fc⟩,fd⟩:=Y.row.at (i:=1) A7;have z5:=E.size;have⟨g0,g1⟩:=aH Y d0;have U:=Kr.trans E;have g2:=Kz ((e3.o.same (h.o.kw.same _ _)).same (E.same _ _));have h6:¬c.heap.size=w.heap.size:=A7;clear Y d1 d0 m0 m1;go_wp2
   have hX:Row (N.setCell ⟨c.heap.size,1,none⟩ (.slice D ts.length ts.length)) w.heap.size 2:=(g0.o.block (Below.heap_setCell _ _ _ _ D6)).row;have g3:=NU _ w.heap.size 0 [.slice n Kk.length Kk.length,.slice D ts.length ts.length] (hX.there (o:=0) (m:=2) (NQ _));refine X_ [.slice n Kk.length Kk.length,.slice D ts.length ts.length] _ results22 rfl g3 underlying32 rfl Tryz.FL rfl ⟨n,D,wr.heap.size,by rw[X.o], ?_, ?_,A7,by simp only[size_setCell];exact z5, ?_⟩
   .refine bW.mono (lo:=w.heap.size+1) (hi:=c.heap.size) ?_ A7 A7;exact ((g2.o.same (Same.setCell _ (.inr A9) _)).same (Same.setCell _ (.inl A9) _)).same (Same.setCell _ (.inl A9) _)
   .have hz:((((N.setCell ⟨c.heap.size,1,none⟩ (.slice D ts.length ts.length)).setCell ⟨w.heap.size,0,none⟩ (.slice n Kk.length Kk.length)).setCell ⟨w.heap.size,1,none⟩ (.slice D ts.length ts.length))).heap.size=N.heap.size:=by simp only[size_setCell]
    refine iq.mono (lo:=wr.heap.size) (hi:=N.heap.size) ?_ (NQ _) (Ot hz.symm);exact ((g1.o.same (Same.setCell _ (.inl a1) _)).same (Same.setCell _ (.inl D6) _)).same (Same.setCell _ (.inl D6) _)
   .exact ((U.setCell D6 _).setCell (NQ _) _).setCell (NQ _) _
end
theorem vV.names{Kj:List Qq}{c:List Int}{T i:List Qz}{D e:List Ps}(m:vV Kj c T D i e)(j:aX (Q_ Kj)):dR Kj T->(∀s∈D,s.size<=1048576)->∀s∈e,s.size<=1048576:=by
 induction m with
 | stop _=>exact λ_ f=>f
 | @step T i D e ns r hR hn hr _ ih=>
  intro h f;have k:ns.getD (mU c D.length ns.length) ByteArray.empty∈ns:=by
   have l:=ul c D.length hn;simp only[List.getD,NV l,Ph];exact Oa l
  obtain⟨n,p,q⟩:=(hR.ready h.asc _).1 k;obtain rfl:r=n:=OQ (hr.symm.trans p);refine ih (yn j h (aN hr).1 q) (λs t=>?_);rcases N_.1 t with b | b
  .exact f s b
  .simp only[OL,OM,or_false] at b;rw[b];exact Du j h.good hR _ k
def Nz(Kk:List Ps)(T:List Qz)(D:List Ps)(w w':Pv)(e:Ending):Prop:=
 ∃ra ds da mid mid2,e= .returned (.agg #[.slice ra Kk.length Kk.length,.slice ds T.length T.length,.slice da D.length D.length])/\bW w' w.heap.size mid ra Kk/\iq w' mid mid2 ds T/\bW w' mid2 w'.heap.size da D/\w.heap.size<=mid/\mid<=mid2/\mid2<=w'.heap.size/\K_ w w'
def Af(Kj:List Qq)(Kk:List Ps)(picks:List Int)(w w':Pv)(e:Ending):Prop:=
 ((bF Kj 0/\eX Kk)/\∃T D,vV Kj picks (eT Kj Kk) [] T D/\T.length<=60/\D.length<=1380/\Nz Kk T D w w' e)\/(¬(bF Kj 0/\eX Kk)/\e= .returned (.agg #[J3,J3,J3])/\K_ w w')
theorem zm(w:Pv)(a:Pt)(cap:Nat)(Kj:List Qq)(rd:Pt)(rc:Nat)(Kk:List Ps)(F:Pt)(R:Nat)(c:List Int)(hl:Kj.length<=1048576)(S:∀s∈Kj,s.Fits)(a9:Kk.length<=1048576)(b0:Kk.length<=rc)(b1:∀s∈Kk,s.size<=maxLen)(b2:c.length<=1048576)(b3:∀p∈c,In64 p)(T:bN w a Kj)(U:Strs w rd Kk)(hP:Ints w F c)(b4:dA w):
  Calls prog 6 #[.agg #[.slice a Kj.length cap],.slice rd Kk.length rc,.slice F c.length R] w λe w'=>Af Kj Kk c w w' e:=by
 obtain⟨d,f⟩:=ai ((w.alloc (.cells #[.slice a Kj.length cap] 25)).alloc (.cells #[J3,J3,J3] 34));have V:K_ w d:=by rw[f];exact (ah _ _).alloc _
 have W:d.heap.size=w.heap.size+2:=by rw[f];simp
 have X:d.cell? ⟨w.heap.size,0,none⟩=some (.slice a Kj.length cap):=by rw[f,K_.cell (w:=w.alloc (.cells #[.slice a Kj.length cap] 25)) (ah _ _) A9];exact Xz w _ _ 0 _ rfl
 have Y:Hid (aB d (w.heap.size+1) 34 3):=by
  have G:=aB.made (w.alloc (.cells #[.slice a Kj.length cap] 25)) #[J3,J3,J3] 34;simp only[OC] at G;rw[f];exact G
 have z0:w.heap.size<d.heap.size:=A7;have⟨y,b5⟩:=aH V W;clear V W;go_enter func6,ntmps6
 go_upto_region 1 with fail
 rw[<-f];clear f;go_wp2_with fail
 refine (yJ d a cap Kj rd rc Kk hl S D5 b0 b1 (T.kept y.o) (U.kept y.o)).mono ?_;rintro e w1 ⟨Z,b6⟩;rcases b6 with⟨a0,rfl⟩|⟨z,a1,wz,bb,mb,ts,d7,dc,rfl,H,hB,I,hE⟩
 .have b7:=Kz a0;have j:=Kz (Y.o.kept Z);obtain⟨⟨_,x0⟩,f0⟩:=j.o.row.at (i:=0) A7;obtain⟨⟨_,x1⟩,f1⟩:=j.o.row.at (i:=1) A7;obtain⟨⟨_,x2⟩,f2⟩:=j.o.row.at (i:=2) A7;have zr:=j.o.lt;clear a0 X;go_wp2_with fail
  have J:=NU w1 (w.heap.size+1) 0 [J3,J3,J3] (j.o.row.there (o:=0) (m:=3) (NQ _));exact X_ [J3,J3,J3] _ results6 rfl J underlying34 rfl Tryz.AX rfl (.inr ⟨b7.o,rfl,bJ (g:=w.heap.size+1) A7 [J3,J3,J3] 0 (y.o.trans Z)⟩)
 have b8:Hid (Qk ts=eT Kj Kk):=yF I.good.asc (fH (cO z) Kk).asc hE;have⟨HB,b9,h,a2⟩:=jW hB I z a1;have a3:=nV z;have A:=y.o.trans H;clear hB I hE z a1 X;go_wp2_with fail
 refine (KG HB.o b9.o (cO h.o) S a3 (nY h.o) (T.kept A) A7 (b4.kept A) F R c b2 b3 (hP.kept A)).mono ?_;rintro e w2 ⟨D,da,ac,d8,b,d2,d9,f2,e0,rfl,B,a4,e1,C,c0,a5⟩;rw[b8.o] at C;have c1:=B.len a3;have c2:Hid (∀t∈b,t.r.name.size<=1048576/\t.r.text.size<=1048576/\t.r.texts.length<=1048576/\∀K∈t.r.texts,K.size<=1048576):=λt ht=>by
  have k:=a4.good.good t.r (OP ht);obtain⟨e2,hA,_⟩:=k.act;have G:=(cO h.o _ _ hA).2.2.1;have e3:=k.tl;have e4:=k.hi;have e5:=k.tx;exact⟨A7,A7,A7,λK hx=>by have:=k.ts K hx;omega⟩
 have c3:=Kz (C.names (cO h.o) (fH (cO h.o) Kk) (λs L=>by cases L));have⟨c4,c5,c6⟩:=fu B C a5;have M:=B.kw;clear B a4 C a5;have c7:Hid (∀s∈Kk,s.size<=1048576):=λs L=>by
  obtain⟨c8,hj,rfl⟩:=Oc L;have c9:=(a2.o.2.2 c8 hj).1.2.1;simp only[List.getD,NV hj,Ph] at c9;omega
 have N:=A.trans M;go_wp2_with fail
 refine (vP Kk c4.o a9 c7.o c1 c2.o (U.kept N)).mono ?_;rintro e w3 ⟨l,n,d0,rfl,a6,a7,e6,d1,O⟩;have⟨d3,d4⟩:=aH a6 a7;clear a6 a7;go_wp2_with fail
 refine (jC w3 da ac D A7 c3.o (c6.o.kept O)).mono ?_;rintro e E ⟨q,rfl,a8,v⟩;have d5:=Kz a8;have KF:=N.trans (O.trans v);have x:=Kz (Y.o.kept (H.trans (M.trans (O.trans v))));obtain⟨⟨_,x0⟩,f0⟩:=x.o.row.at (i:=0) A7;obtain⟨⟨_,x1⟩,f1⟩:=x.o.row.at (i:=1) A7;obtain⟨⟨_,x2⟩,f2⟩:=x.o.row.at (i:=2) A7;have zr:=x.o.lt;have zw:=N.size;have zB:=(H.trans M).size;have e7:=b5.o;have z4:=v.size;clear a8;go_wp2_with fail
 have e8:(Qk b).length=b.length:=by simp[Qk]
 have J:=NU E (w.heap.size+1) 0 [.slice l Kk.length Kk.length,.slice n (Qk b).length (Qk b).length,.slice q D.length D.length] (x.o.row.there (o:=0) (m:=3) (NQ _));have P:∀{Q hi:Nat},w.heap.size+1<Q->Same Q hi E (E.setCells (w.heap.size+1) 0 [.slice l Kk.length Kk.length,.slice n (Qk b).length (Qk b).length,.slice q D.length D.length]):=λ{Q hi} e9 d6 hb _ _=>by
  show ((((E.setCell ⟨w.heap.size+1,0,none⟩ _).setCell ⟨w.heap.size+1,1,none⟩ _).setCell ⟨w.heap.size+1,2,none⟩ _).heap[d6]?)=_;rw[Below.heap_setCell _ _ _ _ D6,Below.heap_setCell _ _ _ _ D6,Below.heap_setCell _ _ _ _ D6]
 exact X_ [.slice l Kk.length Kk.length,.slice n (Qk b).length (Qk b).length,.slice q D.length D.length] _ results6 rfl J underlying34 rfl Tryz.AX rfl (.inl ⟨⟨h.o,a2.o⟩,Qk b,D,c5.o,A7,c0,l,n,q,d0,w3.heap.size,rfl,
  bW.mono (((d3.o.same (v.same _ _))).same (P A7)) A7 (NQ _),(d4.o.same (v.same _ _)).same (P A7),bW.mono (d5.o.same (P A7)) (NQ _) (by simp only[size_setCell];exact NQ _),A7,d1,by simp only[size_setCell];exact z4,bJ (g:=w.heap.size+1) A7 [.slice l Kk.length Kk.length,.slice n (Qk b).length (Qk b).length,.slice q D.length D.length] 0 KF⟩)
attribute [local go_sem] Oper.semAt_some
variable {w : Pv}
theorem aB.there{b n:Nat}{t:TypeId}(h:aB w b t n):w.there b 0 n:=λj c=>by
 obtain⟨⟨v,d⟩,e⟩:=h.row.at c;rw[Ow];exact⟨by rw[d];rfl,e⟩
def fJ(u:Int)(qa:Pt)(ql qc:Nat)(ov fl:Bool)(tx:Ps):Pw:= .agg #[.a u,.slice qa ql qc,.bool ov,.bool fl,.string tx]
theorem Tryz.jw :(prog.info? 207).map (·.size)=some 5:=C9
theorem wZ(u:Int)(qa:Pt)(a qc:Nat)(b c:Bool)(d:Ps):(#[Value.int .i64 u,Value.slice qa a qc,Value.bool b,Value.bool c,Value.string d].all (·.oneCell'))=true:=G5
theorem uf(w:Pv)(a:Bool)(b:Ps):
  Calls prog 150 #[.bool a,.string b] w λe w'=>e= .returned (fJ 1 none 0 0 true a b)/\K_ w w':=by
 go_enter func150,ntmps150
 go_wp2
 exact X_ [.a 1,J3,.bool true,.bool a,.string b] _ results150 rfl (Xz w #[.a 1,J3,.bool true,.bool a,.string b] 207) underlying207 rfl Tryz.jw rfl ⟨rfl,ah _ _⟩
def pQ(s:Xj)(aa:Pt)(ca:Nat)(L:List Ps):Pw:=if s.fin=true then fJ 1 none 0 0 true s.bad (jl s.give L) else fJ 1 aa s.asks.length ca false false ⟨#[]⟩
theorem xI(wz w:Pv)(I:dA wz)(J:K_ wz w)(s:Xj)(a:Pt)(b:Nat)(f:Pt)(h:Nat)(t:Pt)(v:Nat)(L:List Ps)(M:s.give.size<=maxLen)(N:L.length<=maxLen)(O:L.length<=v)(P:Strs w t L):
  Calls prog 147 #[.agg #[.slice a s.asks.length b,.a s.on,.slice f s.cases.length h,.a s.els,.a s.fall,.bool s.fin,.bool s.bad,.string s.give],.slice t L.length v] w λe w'=>e= .returned (pQ s a b L)/\K_ w w':=by
 obtain⟨d,i⟩:=ai ((w.alloc (.cells #[.slice a s.asks.length b,.a s.on,.slice f s.cases.length h,.a s.els,.a s.fall,.bool s.fin,.bool s.bad,.string s.give] 176)).alloc (.cells #[.a 0,J3,.bool false,.bool false,.string ⟨#[]⟩] 207));have F:K_ w d:=by rw[i];exact (ah _ _).alloc _
 have l:Hid (aB d (w.heap.size+1) 207 5):=by
  have n:=aB.made (w.alloc (.cells #[.slice a s.asks.length b,.a s.on,.slice f s.cases.length h,.a s.els,.a s.fall,.bool s.fin,.bool s.bad,.string s.give] 176)) #[.a 0,J3,.bool false,.bool false,.string ⟨#[]⟩] 207;rw[OC] at n;rw[i];exact n
 have k:=Xz w #[.slice a s.asks.length b,.a s.on,.slice f s.cases.length h,.a s.els,.a s.fall,.bool s.fin,.bool s.bad,.string s.give] 176;have Y:w.heap.size<d.heap.size:=by rw[i];simp;omega
 have x:Hid (∀u,K_ d u->J4 u w.heap.size 0 (.slice a s.asks.length b)/\J4 u w.heap.size 5 (.bool s.fin)/\J4 u w.heap.size 6 (.bool s.bad)/\J4 u w.heap.size 7 (.string s.give)):=λu K=>by
  have p:K_ (w.alloc (.cells #[.slice a s.asks.length b,.a s.on,.slice f s.cases.length h,.a s.els,.a s.fall,.bool s.fin,.bool s.bad,.string s.give] 176)) u:=K_.trans (by rw[i];exact ah _ _) K;have q:w.heap.size<(w.alloc (.cells #[.slice a s.asks.length b,.a s.on,.slice f s.cases.length h,.a s.els,.a s.fall,.bool s.fin,.bool s.bad,.string s.give] 176)).heap.size:=A9;exact⟨(p.cell q).trans (k 0 _ rfl),(p.cell q).trans (k 5 _ rfl),(p.cell q).trans (k 6 _ rfl),(p.cell q).trans (k 7 _ rfl)⟩
 have r:=Kz F;clear k F;go_enter func147,ntmps147
 go_upto_region 1 with fail
 rw[<-i];clear i;obtain⟨Q,y,R,S⟩:=x.o d (K_.refl _);cases j:s.fin
 .rw[j] at y;obtain⟨⟨⟨_,Z⟩,a0⟩,⟨⟨_,a1⟩,a2⟩,⟨⟨_,a3⟩,a4⟩,⟨⟨_,a5⟩,a6⟩,⟨_,a7⟩,a8⟩:=l.o.row.uT;have a9:=l.o.lt;have z:=Kz j;clear j;go_wp2
  have A:=NU d (w.heap.size+1) 0 [.a 1,.slice a s.asks.length b,.bool false,.bool false,.string ⟨#[]⟩] (l.o.row.there (o:=0) (m:=5) (NQ _));refine X_ [.a 1,.slice a s.asks.length b,.bool false,.bool false,.string ⟨#[]⟩] _ results147 rfl A underlying207 rfl Tryz.jw rfl ⟨?_, ?_⟩
  .unfold pQ;rw[Pf (by rw[z.o];simp)];rfl
  .exact bJ (g:=w.heap.size+1) A7 [.a 1,.slice a s.asks.length b,.bool false,.bool false,.string ⟨#[]⟩] 0 r.o
 .rw[j] at y;have z:=Kz j;have B:Hid (∀u,K_ d u->J4 u w.heap.size 6 (.bool s.bad)/\J4 u w.heap.size 7 (.string s.give)):=λu K=>⟨(x.o u K).2.2.1,(x.o u K).2.2.2⟩
  clear j Q;go_upto_region 2 with fail
  clear y R S;refine bn 7 B.o λT C D=>?_
  refine ax 0 D ?_;refine ae 4 D ?_;refine aF 5 (λK c=>?_);go_simp
  go_at_call 118
  refine (I T s.give t v L (J.trans (r.o.trans C)) M N (P.kept (r.o.trans C)) O).mono ?_;rintro e U ⟨rfl,V⟩;have G:=C.trans V;dsimp only;refine af c (λ_=>B.o _ G) ?_;clear c K D;refine aF 6 (λK c=>?_);go_simp
  go_at_call 150
  refine (uf U s.bad (jl s.give L)).mono ?_;rintro e W ⟨rfl,X⟩;have E:=G.trans X;dsimp only;refine af c (λ_=>B.o _ E) ?_;clear c K;have H:=Kz (l.o.kept E);refine aF 7 (λK c=>?_);refine wp_store_mid 207 _ _ rfl (w.heap.size+1) 0 #[.a 1,J3,.bool true,.bool s.bad,.string (jl s.give L)] D8 D8 H.o.there C9 (wZ ..) ?_;refine af c (λn=>absurd rfl n) ?_;clear c K;refine aG ?_;go_wp2
  have A:=NU W (w.heap.size+1) 0 [.a 1,J3,.bool true,.bool s.bad,.string (jl s.give L)] (H.o.row.there (o:=0) (m:=5) (NQ _));refine X_ [.a 1,J3,.bool true,.bool s.bad,.string (jl s.give L)] _ results147 rfl A underlying207 rfl Tryz.jw rfl ⟨?_, ?_⟩
  .unfold pQ;rw[Pe z.o];rfl
  .exact bJ (g:=w.heap.size+1) A7 [.a 1,J3,.bool true,.bool s.bad,.string (jl s.give L)] 0 (r.o.trans E)
structure fB where
 r:Qz
 cost:Int
 steps:List Xj
 sa:Pt
 sc:Nat
 vb:Nat
 ab:Nat
 tb:Nat
 xb:Nat
 tv:Pw
def fB.own(t:fB):List Nat:=[t.vb,t.tb,t.xb]++t.tv.ownBlock.toList
def fB.fn(t:fB):Pw:= .func (.func 146) #[] #[lM t.vb,lM t.ab,lM t.tb,lM t.xb]
structure dE (base:Nat) (w:Pv) (t:fB):Prop where
 rv:aB w t.vb 3 1
 cv:w.cell? ⟨t.vb,0,none⟩=some (.a t.r.Zj)
 rt:aB w t.tb 3 1
 ct:w.cell? ⟨t.tb,0,none⟩=some (.a t.r.at')
 rx:aB w t.xb 26 1
 cx:w.cell? ⟨t.xb,0,none⟩=some t.tv
 ra:aB w t.ab 73 2
 ca:w.cell? ⟨t.ab,1,none⟩=some (.slice t.sa t.steps.length t.sc)
 txt:w.ownsRow base 9 1 t.tv t.r.texts.length (t.r.texts.map Value.string)
 low:base<=t.vb/\base<=t.tb/\base<=t.xb/\base<=t.ab
 ne:t.vb≠t.tb
variable {t : fB}
theorem dx{x:Nat}:x∈t.own↔x=t.vb\/x=t.tb\/x=t.xb\/t.tv.ownBlock=some x:=by
 unfold fB.own;rw[N_,Oz];simp only[OL,OM,or_false];constructor
 .rintro ((h|h|h) | h)
  .exact .inl h
  .exact .inr (.inl h)
  .exact .inr (.inr (.inl h))
  .exact .inr (.inr (.inr h))
 .rintro (h|h|h|h)
  .exact .inl (.inl h)
  .exact .inl (.inr (.inl h))
  .exact .inl (.inr (.inr h))
  .exact .inr h
variable {base : Nat}
theorem dE.bH(h:dE base w t){x:Nat}(c:x∈t.own):(bf w x 3\/bf w x 26\/bf w x 9)/\base<=x/\x<w.heap.size:=by
 rcases dx.1 c with rfl|rfl|rfl|e
 .exact⟨.inl h.rv.type,h.low.1,h.rv.lt⟩
 .exact⟨.inl h.rt.type,h.low.2.1,h.rt.lt⟩
 .exact⟨.inr (.inl h.rx.type),h.low.2.2.1,h.rx.lt⟩
 .exact⟨.inr (.inr (Yz h.txt e)),h.txt.lt x e⟩
theorem dE.own_ne(h:dE base w t){b:Nat}{u:TypeId}(a:bf w b u)(d:u≠3)(h2:u≠26)(e:u≠9):b∉t.own:=λf=>by
 rcases (h.bH f).1 with g|g|g
 .exact aK a g d rfl
 .exact aK a g h2 rfl
 .exact aK a g e rfl
variable {S : Nat -> Prop}
theorem dE.but{w':Pv}(h:dE base w t)(k:But S w w')(a:∀x∈t.own,¬S x)(h2:¬S t.ab):dE base w' t:=by
 have b:=a t.vb (dx.2 (.inl rfl));have c:=a t.tb (dx.2 (.inr (.inl rfl)));have d:=a t.xb (dx.2 (.inr (.inr (.inl rfl))));exact⟨k.row h.rv b,(k.cell h.rv.lt b).trans h.cv,k.row h.rt c,(k.cell h.rt.lt c).trans h.ct,k.row h.rx d,(k.cell h.rx.lt d).trans h.cx,k.row h.ra h2,(k.cell h.ra.lt h2).trans h.ca,k.owns h.txt (λe f=>a e (dx.2 (.inr (.inr (.inr f))))),h.low,h.ne⟩
theorem dE.kept{w':Pv}(h:dE base w t)(k:K_ w w'):dE base w' t:=h.but (S:=λ_=>False) (But.au k) (λ_ _=>id) id
theorem kv(b o:Nat)(v:Pw):But (λx=>x=b) w (w.setCell ⟨b,o,none⟩ v):=But.set (S:=λx=>x=b) (But.au (K_.refl w)) (p:=⟨b,o,none⟩) rfl v
theorem gP{g:Nat}(a:S g\/w.heap.size<=g):∀(vs:List Pw) (o:Nat) {u:Pv},But S w u->But S w (u.setCells g o vs)
 | [],_,_,h=>h
 | v :: r,o,u,h=>by
  rw[World.setCells];refine gP a r (o+1) ?_;rcases a with e|e
  .exact h.set (p:=⟨g,o,none⟩) e v
  .exact⟨h.os,h.tape,h.output,by rw[size_setCell];exact h.size,λb c d=>by rw[Below.heap_setCell _ _ _ _ (λf=>by have i:b=g:=f;omega)];exact h.block b c d⟩
theorem dE.visit(h:dE base w t)(v:Int):dE base (w.setCell ⟨t.vb,0,none⟩ (.a v)) {t with r:={t.r with Zj:=v}}:=by
 have k:=kv (w:=w) t.vb 0 (.a v);have a:¬t.tb=t.vb:=λe=>h.ne e.symm
 have c:¬t.xb=t.vb:=aK h.rx.type h.rv.type A8;have d:¬t.ab=t.vb:=aK h.ra.type h.rv.type A8;obtain⟨⟨_,f⟩,l⟩:=h.rv.row.at (i:=0) A7;exact⟨h.rv.set _,OX _ _ _ (by rw[f]),k.row h.rt a,(k.cell h.rt.lt a).trans h.ct,k.row h.rx c,(k.cell h.rx.lt c).trans h.cx,k.row h.ra d,(k.cell h.ra.lt d).trans h.ca,k.owns h.txt (λb j=>aK (Yz h.txt j) h.rv.type A8),h.low,h.ne⟩
theorem dE.goto(h:dE base w t)(v:Int):dE base (w.setCell ⟨t.tb,0,none⟩ (.a v)) {t with r:={t.r with at':=v}}:=by
 have k:=kv (w:=w) t.tb 0 (.a v);have a:¬t.vb=t.tb:=h.ne;have c:¬t.xb=t.tb:=aK h.rx.type h.rt.type A8;have d:¬t.ab=t.tb:=aK h.ra.type h.rt.type A8;obtain⟨⟨_,e⟩,j⟩:=h.rt.row.at (i:=0) A7;exact⟨k.row h.rv a,(k.cell h.rv.lt a).trans h.cv,h.rt.set _,OX _ _ _ (by rw[e]),k.row h.rx c,(k.cell h.rx.lt c).trans h.cx,k.row h.ra d,(k.cell h.ra.lt d).trans h.ca,k.owns h.txt (λb f=>aK (Yz h.txt f) h.rt.type A8),h.low,h.ne⟩
theorem dE.more{w1:Pv}(h:dE base w t){v':Pw}{l:List Ps}(d:w1.ownsRow base 9 1 v' (t.r.texts.length+l.length) (t.r.texts.map Value.string++l.map Value.string))(s:w.grownBy w1 t.tv.ownBlock):dE base (w1.setCell ⟨t.xb,0,none⟩ v') {t with tv:=v',r:={t.r with texts:=t.r.texts++l}}:=by
 have f:But (λb=>t.tv.ownBlock=some b) w w1:=But.aI s (λb e=>e);have k:But (λb=>t.tv.ownBlock=some b\/b=t.xb) w (w1.setCell ⟨t.xb,0,none⟩ v'):=(f.mono (λb _ e=>.inl e)).set (p:=⟨t.xb,0,none⟩) (.inr rfl) v';have a:∀{b:Nat} {u:TypeId},bf w b u->u≠9->u≠26->¬(t.tv.ownBlock=some b\/b=t.xb):=λj v x e=>by
  rcases e with e|e
  .exact aK j (Yz h.txt e) v rfl
  .exact aK j h.rx.type x e
 have c:aB w1 t.xb 26 1:=f.row h.rx (λe=>aK h.rx.type (Yz h.txt e) A8 rfl);obtain⟨⟨_,y⟩,z⟩:=c.row.at (i:=0) A7;have m:=a h.rv.type A8 A8;have n:=a h.rt.type A8 A8;have q:=a h.ra.type A8 A8;refine⟨k.row h.rv m,(k.cell h.rv.lt m).trans h.cv,k.row h.rt n,(k.cell h.rt.lt n).trans h.ct,c.set _,OX _ _ _ (by rw[y]),k.row h.ra q,(k.cell h.ra.lt q).trans h.ca, ?_,h.low,h.ne⟩;show (w1.setCell ⟨t.xb,0,none⟩ v').ownsRow base 9 1 v' (t.r.texts++l).length ((t.r.texts++l).map Value.string);rw[OD,Pi];exact (kv (w:=w1) t.xb 0 v').owns d (λb e=>aK (Yz d e) c.type A8)
theorem But.trans'{u v:Pv}(h:But S w u)(k:K_ u v):But S w v:=h.trans (But.au k)
theorem Hr(w:Pv)(a:dE base w t)(b:t.r.Zj=20)(c:Pw):
  Calls prog 146 #[c,.c t.vb,.c t.ab,.c t.tb,.c t.xb] w λe w'=>e= .returned (fJ 0 none 0 0 true true gX)/\K_ w w':=by
 have d:=a.cv;rw[b] at d;have f:=a.rv.lt;have h:=Kz a;clear a b;go_enter func146,ntmps146
 go_wp2
 exact X_ [.a 0,J3,.bool true,.bool true,.string gX] _ results146 rfl (Xz w #[.a 0,J3,.bool true,.bool true,.string gX] 207) underlying207 rfl Tryz.jw rfl ⟨rfl,ah _ _⟩
def MV(wz w:Pv)(t t':fB)(s:Xj)(w':Pv)(e:Ending):Prop:=∃(aa:Pt) (ca:Nat),e= .returned (pQ s aa ca t'.r.texts)/\Strs wz aa s.asks/\dE wz.heap.size w' t'/\But (· ∈t.own) w w'
theorem Iq(wz w:Pv)(b0:dA wz)(kz:K_ wz w)(n:dE wz.heap.size w t)(b1:Steps wz t.sa t.steps)(D:t.r.Zj=0)(a:Nat)(R:t.r.at'= (a:Int))(b2:a<t.steps.length)(s:Xj)(T:s=t.steps.getD a Xj.zero)(b3:s.give.size<=maxLen)(hl:t.r.texts.length<=1000)(av:Pw):
  Calls prog 146 #[av,.c t.vb,.c t.ab,.c t.tb,.c t.xb] w λe w'=>MV wz w t {t with r:={t.r with Zj:=1}} s w' e:=by
 obtain⟨B,J⟩:=ai (w.alloc (.cells #[.a 0,J3,.bool false,.bool false,.string ⟨#[]⟩] 207));have U:K_ w B:=by rw[J];exact ah _ _
 have b4:Hid (aB B w.heap.size 207 5):=by rw[J];exact aB.made w #[.a 0,J3,.bool false,.bool false,.string ⟨#[]⟩] 207
 have b5:=Kz n;have L:=Kz (n.kept U);have c9:∀C∈t.own,C≠w.heap.size:=λC V e=>by have:=(n.bH V).2.2;omega
 have b6:t.ab≠w.heap.size:=λe=>by have:=n.ra.lt;omega
 have b7:∀{u:Pv},But (· ∈t.own) w u->K_ wz u:=λE=>E.kept kz (λM hb=>(n.bH hb).2.1)
 have c0:J4 B t.vb 0 (.a t.r.Zj):=L.o.cv;obtain⟨⟨_,f1⟩,f0⟩:=L.o.rv.row.at (i:=0) A7;have vz:=L.o.rv.lt;have d0:=n.rv.lt;have a1:Hid (But (· ∈t.own) w (B.setCell ⟨t.vb,0,none⟩ (.a 1))):=But.set (S:=(· ∈t.own)) (But.au U) (p:=⟨t.vb,0,none⟩) (dx.2 (.inl rfl)) _;obtain⟨d,F⟩:=ai (B.setCell ⟨t.vb,0,none⟩ (.a 1));have k:Hid (dE wz.heap.size d {t with r:={t.r with Zj:=1}}):=by rw[F];exact L.o.visit 1
 have b8:Hid (aB d w.heap.size 207 5):=by rw[F];exact (kv (w:=B) t.vb 0 (.a 1)).row b4.o (λe=>A7)
 have a2:Hid (But (· ∈t.own) w d):=by rw[F];exact a1.o
 have f:=b7 a2.o;have d1:∀C∈t.own,C∈t.own:=λ_ E=>E
 rw[D] at c0;have d2:=Kz D;clear D n U a1 f1;go_enter func146,ntmps146
 go_upto_region 1 with fail
 rw[<-J];clear J;go_upto_region 5 with fail
 rw[<-F];clear F c0 f0 vz;obtain⟨b,c,cs,a3,h,j,G,H,W,X,rfl,Y,a4,_⟩:=b1 a b2;rw[<-T] at j Y a4;have t0:J4 d b (c+a*8) (.slice G s.asks.length H):=(f.cell h).trans (j 0 _ rfl);have t1:J4 d b (c+a*8+1) (.a s.on):=(f.cell h).trans (j 1 _ rfl);have t2:J4 d b (c+a*8+2) (.slice W s.cases.length X):=(f.cell h).trans (j 2 _ rfl);have t3:J4 d b (c+a*8+3) (.a s.els):=(f.cell h).trans (j 3 _ rfl);have t4:J4 d b (c+a*8+4) (.a s.fall):=(f.cell h).trans (j 4 _ rfl);have t5:J4 d b (c+a*8+5) (.bool s.fin):=(f.cell h).trans (j 5 _ rfl);have t6:J4 d b (c+a*8+6) (.bool s.bad):=(f.cell h).trans (j 6 _ rfl);have t7:J4 d b (c+a*8+7) (.string s.give):=(f.cell h).trans (j 7 _ rfl);have c8:d.cell? ⟨t.ab,1,none⟩=some (.slice (some ⟨b,c,none⟩) t.steps.length t.sc):=by rw[<-a3];exact k.o.ca
 have c4:d.cell? ⟨t.tb,0,none⟩=some (.a (a:Int)):=by rw[<-R];exact k.o.ct
 obtain⟨Z,N,O,a5⟩:=bv k.o.txt;have⟨d3,b9⟩:=aH O a5;have c1:Hid (t.r.texts.length<=N):=by
  have h1:=k.o.txt;rw[O] at h1;show _<=_;rcases h1.2 with⟨e,D⟩|⟨g,cp,d4,e,_,_,c2,_⟩
  .have d5:t.r.texts.length=0:=D;omega
  .simp only[OG] at e;have d6:t.r.texts.length<=cp:=c2;omega
 have cx:d.cell? ⟨t.xb,0,none⟩=some (.slice Z t.r.texts.length N):=by rw[<-O];exact k.o.cx
 have az:=k.o.ra.lt;have tz:=k.o.rt.lt;have xz:=k.o.rx.lt;have l:b<d.heap.size:=NR h f.size;have a6:Hid (∀u,K_ d u->J4 u t.ab 1 (.slice (some ⟨b,c,none⟩) t.steps.length t.sc)/\J4 u t.tb 0 (.a (a:Int))/\J4 u b (c+a*8) (.slice G s.asks.length H)/\J4 u b (c+a*8+1) (.a s.on)/\J4 u b (c+a*8+2) (.slice W s.cases.length X)/\J4 u b (c+a*8+3) (.a s.els)/\J4 u b (c+a*8+4) (.a s.fall)/\J4 u b (c+a*8+5) (.bool s.fin)/\J4 u b (c+a*8+6) (.bool s.bad)/\J4 u b (c+a*8+7) (.string s.give)/\J4 u t.xb 0 (.slice Z t.r.texts.length N)):=λu K=>⟨(K.cell az).trans c8,(K.cell tz).trans c4,(K.cell l).trans t0,(K.cell l).trans t1,(K.cell l).trans t2,(K.cell l).trans t3,(K.cell l).trans t4,(K.cell l).trans t5,(K.cell l).trans t6,(K.cell l).trans t7,(K.cell xz).trans cx⟩
 have c3:=Kz Y;have d7:(a:Int)<(t.steps.length:Int):=A7;have c5:=f;have⟨d8,d9⟩:=aH T R;clear T R O a5 c8 c4 cx az tz xz l h j Y a4 a3 t0 t1 t2 t3 t4 t5 t6 t7;obtain⟨q,v,x,y,z,A,a7⟩:∃q v x y z A,pQ s G H t.r.texts=fJ 1 q v x y z A:=by
  unfold pQ
  split
  .exact⟨_,_,_,_,_,_,rfl⟩
  .exact⟨_,_,_,_,_,_,rfl⟩
 have a8:=Kz a7;clear a7;refine bn 7 a6.o λwd KD P=>?_
 refine ax 0 P ?_;refine ae 4 P ?_;refine ae 5 P ?_;refine aF 6 (λK I=>?_);go_simp
 go_at_call 147
 refine (xI wz wd b0 (c5.trans KD) s G H W X Z N (t.r.texts) b3 D5 c1.o (b9.o.kept KD)).mono ?_;rintro e wc ⟨rfl,kc⟩;have Q:=KD.trans kc;rw[a8.o];dsimp only[fJ];refine af I (λ_=>a6.o _ Q) ?_;clear I K P;have a0:=Kz (b8.o.kept Q);refine aF 7 (λK I=>?_);refine wp_store_mid 207 _ _ rfl w.heap.size 0 #[.a 1,.slice q v x,.bool y,.bool z,.string A] D8 D8 a0.o.there C9 (wZ ..) ?_;refine af I (λE=>absurd rfl E) ?_;clear I K;refine aG ?_;go_wp2
 have hX:=NU wc w.heap.size 0 [.a 1,.slice q v x,.bool y,.bool z,.string A] (a0.o.row.there (o:=0) (m:=5) (NQ _));refine X_ [.a 1,.slice q v x,.bool y,.bool z,.string A] _ results146 rfl hX underlying207 rfl Tryz.jw rfl ?_;have a9:=k.o.kept Q;have kS:But (λM=>M=w.heap.size) wc (wc.setCells w.heap.size 0 [.a 1,.slice q v x,.bool y,.bool z,.string A]):=gP (S:=λM=>M=w.heap.size) (.inl rfl) _ 0 (But.au (K_.refl _));have c6:=a9.but kS (λC V e=>a9.own_ne a0.o.type A8 A8 A8 (by have e2:C=w.heap.size:=e;rw[<-e2];exact V)) (λe=>by have e2:t.ab=w.heap.size:=e;have h2:=b5.o.ra.lt;exact b6 e2);have c7:=gP (S:=(· ∈t.own)) (.inr (NQ _)) [.a 1,.slice q v x,.bool y,.bool z,.string A] 0 (a2.o.trans' Q);exact⟨G,H,by rw[a8.o];rfl,c3.o,c6,c7⟩
def Ll(wz w:Pv)(t:fB)(g:b_)(xs:List Xq)(w':Pv)(e:Ending):Prop:=
 (g.over=true/\e= .returned (fJ 1 none 0 0 true true g.text)/\dE wz.heap.size w' {t with r:={t.r with Zj:=t.r.Zj+1}}/\But (· ∈t.own) w w')\/
 (g.over=false/\∃tv',MV wz w t {t with tv:=tv',r:={t.r with Zj:=t.r.Zj+1,at':=g.at',texts:=t.r.texts++aW xs}} (t.steps.getD g.at'.toNat Xj.zero) w' e/\∀x,tv'.ownBlock=some x->t.tv.ownBlock=some x\/w.heap.size<=x)
theorem Ie(wz w:Pv)(h9:dA wz)(kz:K_ wz w)(M:dE wz.heap.size w t)(a4:Steps wz t.sa t.steps)(i0:0<t.r.Zj)(i1:t.r.Zj<20)(k:Nat)(c2:t.r.at'= (k:Int))(i2:k<t.steps.length)(s:Xj)(hs:s=t.steps.getD k Xj.zero)(e1:s.fin=false)(e3:Nat)(da:Pt)(dc:Nat)(xs:List Xq)(hO:w.ownsRow e3 80 2 (.slice da xs.length dc) xs.length (bO xs))
 (n0:xs.length<=5) (i3:∀x∈xs,x.text.size<=200) (e4:Followed s xs (bQ s xs)) (hF:s.Fits) (i4:∀x∈s.asks,x.size<=20) (i5:s.asks.length≠0->0<=s.on/\s.on<s.asks.length) (e5:(bQ s xs).over=false->0<=(bQ s xs).at'/\(bQ s xs).at' < t.steps.length/\(t.steps.getD (bQ s xs).at'.toNat Xj.zero).give.size<=maxLen) (hl:t.r.texts.length<=900):
  Calls prog 146 #[.slice da xs.length dc,.c t.vb,.c t.ab,.c t.tb,.c t.xb] w λe w'=>Ll wz w t (bQ s xs) xs w' e:=by
 obtain⟨is,i6,i7,i8,i9⟩:=aY Tryz.eP;obtain⟨W0,b1⟩:=ai (w.alloc (.cells #[.a 0,J3,.bool false,.bool false,.string ⟨#[]⟩] 207));have k0:K_ w W0:=by rw[b1];exact ah _ _
 have j0:Hid (aB W0 w.heap.size 207 5):=by rw[b1];exact aB.made w #[.a 0,J3,.bool false,.bool false,.string ⟨#[]⟩] 207
 have e6:=Kz M;have b2:=Kz (M.kept k0);have b3:∀x∈t.own,x≠w.heap.size:=λx O e=>by have:=(M.bH O).2.2;omega
 have e7:t.ab≠w.heap.size:=λe=>by have:=M.ra.lt;omega
 have c3:∀{u:Pv},But (· ∈t.own) w u->K_ wz u:=λa5=>a5.kept kz (λb hb=>(M.bH hb).2.1)
 have e8:J4 W0 t.vb 0 (.a t.r.Zj):=b2.o.cv;obtain⟨⟨_,f1⟩,f0⟩:=b2.o.rv.row.at (i:=0) A7;have vz:=b2.o.rv.lt;have n1:=M.rv.lt;obtain⟨B,hv⟩:=ai t.r.Zj;rw[<-hv] at e8 i0 i1;have f2:Hid (But (· ∈t.own) w (W0.setCell ⟨t.vb,0,none⟩ (.a (B+1)))):=But.set (S:=(· ∈t.own)) (But.au k0) (p:=⟨t.vb,0,none⟩) (dx.2 (.inl rfl)) _;obtain⟨h,a6⟩:=ai (W0.setCell ⟨t.vb,0,none⟩ (.a (B+1)));have a0:Hid (dE wz.heap.size h {t with r:={t.r with Zj:=B+1}}):=by rw[a6];exact b2.o.visit (B+1)
 have c5:Hid (aB h w.heap.size 207 5):=by rw[a6];exact (kv (w:=W0) t.vb 0 (.a (B+1))).row j0.o (λe=>A7)
 have b4:Hid (But (· ∈t.own) w h):=by rw[a6];exact f2.o
 have n:=c3 b4.o;have j1:Hid (h.ownsRow e3 80 2 (.slice da xs.length dc) xs.length (bO xs)):=b4.o.owns hO (λb hb=>M.own_ne (Yz hO hb) A8 A8 A8);have HV:=Kz hv;have j2:(B == 20)=false:=by simp only[beq_eq_false_iff_ne,ne_eq];omega
 have j3:(B+1 == 1)=false:=by simp only[beq_eq_false_iff_ne,ne_eq];omega
 obtain⟨q,C,cs,f3,D,v,aa,ca,ac,cc,rfl,c6,c7,_⟩:=a4 k i2;rw[<-hs] at v c6 c7;have t0:J4 h q (C+k*8) (.slice aa s.asks.length ca):=(n.cell D).trans (v 0 _ rfl);have t1:J4 h q (C+k*8+1) (.a s.on):=(n.cell D).trans (v 1 _ rfl);have t2:J4 h q (C+k*8+2) (.slice ac s.cases.length cc):=(n.cell D).trans (v 2 _ rfl);have t3:J4 h q (C+k*8+3) (.a s.els):=(n.cell D).trans (v 3 _ rfl);have t4:J4 h q (C+k*8+4) (.a s.fall):=(n.cell D).trans (v 4 _ rfl);have t5:h.cell? ⟨q,C+k*8+5,none⟩=some (.bool false):=by rw[<-e1];exact (n.cell D).trans (v 5 _ rfl)
 have t6:J4 h q (C+k*8+6) (.bool s.bad):=(n.cell D).trans (v 6 _ rfl);have t7:J4 h q (C+k*8+7) (.string s.give):=(n.cell D).trans (v 7 _ rfl);have c8:h.cell? ⟨t.ab,1,none⟩=some (.slice (some ⟨q,C,none⟩) t.steps.length t.sc):=by rw[<-f3];exact a0.o.ca
 have c4:h.cell? ⟨t.tb,0,none⟩=some (.a (k:Int)):=by rw[<-c2];exact a0.o.ct
 have az:=a0.o.ra.lt;have tz:=a0.o.rt.lt;have sz:q<h.heap.size:=NR D n.size;have n2:(k:Int)<(t.steps.length:Int):=A7;have⟨j4,j5,j6,j7,j8⟩:=jH c6 c7 e4 e5 e1;have⟨f4,j9,n3,n4⟩:=jW hO a4 c2 hs;clear M hO k0 f2 f1 hv v c6 c7 e4 e5 f3 a4 c2 hs;go_enter func146,ntmps146
 go_upto_region 1 with fail
 rw[<-b1];clear b1;go_upto_region 6 with fail
 rw[<-a6];clear a6 e8 f0 vz j2 j3;go_wp2_with fail
 refine (rT h s aa ac ca cc).mono ?_;rintro e w5 ⟨rfl,k5⟩;obtain⟨k1,c9,e9,_,b5⟩:=gH j1.o;simp only[OG] at e9;obtain⟨rfl,k2,rfl⟩:=e9;clear k2;have k3:=Kz b5.answers;clear b5 c8 c4 t0 t1 t2 t3 t4 t5 t6 t7 az tz sz;go_wp2_with fail
 refine (xA w5 s j8.o aa ac da ca cc dc xs hF (j4.o.kept (n.trans k5)) (j5.o.kept (n.trans k5)) D5 (λk4 hc=>by have:=i3 k4 hc;unfold maxLen;omega) (k3.o.kept k5) i5 (λn5 hq=>by simp only[List.getD,List.getElem?_eq_getElem hq,Option.getD_some];exact i4 _ (List.getElem_mem hq))).mono ?_;rintro e E ⟨⟨g,rfl,f5⟩,k6⟩;have f6:bQ s xs=g:=j6.o.unique f5;have b6:=Kz f6;dsimp only[b_.cells];have K6:=k5.trans k6;clear f5 f6;obtain⟨F,P⟩:=ai (E.alloc (.cells #[.a g.code,.bool g.over,.a g.at',.string g.text] 186));have k7:K_ E F:=by rw[P];exact ah _ _
 have p1:F.cell? ⟨E.heap.size,1,none⟩=some (.bool g.over):=by rw[P];exact Xz E #[.a g.code,.bool g.over,.a g.at',.string g.text] 186 1 _ rfl
 have p2:F.cell? ⟨E.heap.size,2,none⟩=some (.a g.at'):=by rw[P];exact Xz E #[.a g.code,.bool g.over,.a g.at',.string g.text] 186 2 _ rfl
 have p3:F.cell? ⟨E.heap.size,3,none⟩=some (.string g.text):=by rw[P];exact Xz E #[.a g.code,.bool g.over,.a g.at',.string g.text] 186 3 _ rfl
 have n6:E.heap.size<F.heap.size:=by rw[P];simp
 go_upto_region 7 with fail
 rw[<-P];clear P;have K7:=K6.trans k7;cases Q:g.over
 .rw[Q] at p1;have d0:=Kz Q;obtain⟨k8,l0,d1⟩:=j7.o (by rw[b6.o];exact Q);rw[b6.o] at k8 l0 d1;obtain⟨a,R⟩:∃a:Nat,g.at'= (a:Int):=⟨g.at'.toNat,A7⟩;have l1:a<t.steps.length:=A7;obtain⟨c,a1⟩:=ai (t.steps.getD a Xj.zero);have b7:Hid (t.steps.getD g.at'.toNat Xj.zero=c):=by rw[a1,R];rfl
  rw[b7.o] at d1;have b8:=Kz (a0.o.kept K7);have c4:J4 F t.tb 0 (.a t.r.at'):=b8.o.ct;obtain⟨⟨_,f1⟩,f0⟩:=b8.o.rt.row.at (i:=0) A7;have tz:=b8.o.rt.lt;obtain⟨G,a7⟩:=ai (F.setCell ⟨t.tb,0,none⟩ (.a g.at'));have d2:Hid (dE wz.heap.size G {t with r:={t.r with Zj:=B+1,at':=g.at'}}):=by rw[a7];exact b8.o.goto g.at'
  have a8:Hid (aB G w.heap.size 207 5):=by rw[a7];exact (kv (w:=F) t.tb 0 (.a g.at')).row (c5.o.kept K7) (λe=>by have h1:=b3 t.tb (dx.2 (.inr (.inl rfl)));exact h1 e.symm)
  have b9:Hid (But (· ∈t.own) w G):=by rw[a7];exact But.set (S:=(· ∈t.own)) (b4.o.trans' K7) (p:=⟨t.tb,0,none⟩) (dx.2 (.inr (.inl rfl))) _
  have l2:Hid (eU G da xs):=by
   have h1:=b9.o.owns f4.o (λb hb=>e6.o.own_ne (Yz f4.o hb) A8 A8 A8);obtain⟨k1,c9,e9,_,b5⟩:=gH h1;simp only[OG] at e9;rw[e9.1];exact b5.answers
  have l3:Hid (t.tv=t.tv):=rfl;have f7:Hid (∀u,K_ G u->J4 u t.xb 0 (t.tv)):=λu K=>(d2.o.kept K).cx
  obtain⟨ta,tc,f8⟩:=ay d2.o.txt;have⟨n7,f9⟩:=aH f8 R;clear Q f1 l3 f8 a1 R;go_upto_region 10 with fail
  rw[<-a7];clear a7 p1 p2 p3 f0 tz c4;refine bn 4 f7.o λwd T N=>?_
  refine ae 0 N ?_;refine ae 1 N ?_;refine aF 2 (λK l=>?_);go_simp
  go_at_call 151
  refine (rO wd da dc xs A7 (l2.o.kept T)).mono ?_;rintro e w9 ⟨⟨ga,gc,rfl,g0⟩,k9⟩;have K9:=T.trans k9;have H:=Kz (d2.o.kept K9);have l4:=Kz g0;have l5:wz.heap.size<=w9.heap.size:=NT (c3 b9.o).size K9.size;have n8:(aW xs).length<=5:=by have:=r_ xs;omega
  refine af l (λ_=>f7.o _ K9) ?_;clear l K N g0;refine aF 3 (λK l=>?_);refine dY (.tmp 38) (.tmp 40) 26 rfl wz.heap.size 9 is _ 16 underlying26 i6 i7 i8 i9 rfl t.tv t.r.texts.length (t.r.texts.map Value.string) rfl H.o.txt ga gc (aW xs) rfl l4.o D5 A7 l5 ?_;intro v' U d3 d4 g1;obtain⟨va,vc,rfl⟩:=ay d3;have l6:=Kz (H.o.more d3 d4);have kA:But (λb=>t.tv.ownBlock=some b) w9 U:=But.aI d4 (λb e=>e);have l7:Hid (But (· ∈t.own) w U):=((b9.o.trans' K9).trans ((kA.mono (λb _ e=>dx.2 (.inr (.inr (.inr e)))))));have l8:Hid (aB U w.heap.size 207 5):=kA.row (a8.o.kept K9) (λe=>b3 _ (dx.2 (.inr (.inr (.inr e)))) rfl);have d5:aB U t.xb 26 1:=kA.row H.o.rx (λe=>aK H.o.rx.type (Yz H.o.txt e) A8 rfl);have l9:Hid (J4 U t.xb 0 t.tv):=(kA.cell H.o.rx.lt (λe=>aK H.o.rx.type (Yz H.o.txt e) A8 rfl)).trans H.o.cx;have m0:Hid (∀x,(Value.slice va (t.r.texts.length+ (aW xs).length) vc).ownBlock=some x->t.tv.ownBlock=some x\/w.heap.size<=x):=λx O=>by
   rcases g1 x O with e|e
   .exact .inl e
   .exact .inr (NT (NT b9.o.size K9.size) e)
  obtain⟨⟨_,x6⟩,m1⟩:=d5.row.at (i:=0) A7;have m2:=d5.lt;refine af l (λ_=>l9.o) ?_;clear l K d3 d4 g1;refine aj 4 (λK l=>?_);go_simp
  refine af l (λa5=>Pg rfl a5) ?_;clear l K;refine aG ?_;obtain⟨L,hL⟩:=ai (t.r.texts++aW xs);obtain⟨j,a9⟩:=ai (U.setCell ⟨t.xb,0,none⟩ (.slice va (t.r.texts.length+ (aW xs).length) vc));have I:Hid (dE wz.heap.size j {t with tv:= .slice va (t.r.texts.length+ (aW xs).length) vc,r:={t.r with Zj:=B+1,at':=g.at',texts:=L}}):=by rw[a9,hL];exact l6.o
  have m3:Hid (aB j w.heap.size 207 5):=by rw[a9];exact (kv (w:=U) t.xb 0 _).row l8.o (λe=>b3 t.xb (dx.2 (.inr (.inr (.inl rfl)))) e.symm)
  have g2:Hid (But (· ∈t.own) w j):=by rw[a9];exact But.set (S:=(· ∈t.own)) l7.o (p:=⟨t.xb,0,none⟩) (dx.2 (.inr (.inr (.inl rfl)))) _
  have y:=c3 g2.o;have a4:=j9.o;have a1:c=t.steps.getD a Xj.zero:=by rw[<-b7.o,f9.o];rfl
  have R:=f9.o;have n9:L.length<=1000:=by rw[hL,OD];omega
  have HL:=Kz hL;rw[<-a9];clear hL a9 x6 m1 m2 d5 kA T;go_upto_region 11 with fail
  obtain⟨d,f,o0,g3,z,A,a2,a3,d6,d7,rfl,d8,g4,_⟩:=a4 a l1;rw[<-a1] at A d8 g4;have g5:J4 j d (f+a*8) (.slice a2 c.asks.length a3):=(y.cell z).trans (A 0 _ rfl);have g6:J4 j d (f+a*8+1) (.a c.on):=(y.cell z).trans (A 1 _ rfl);have g7:J4 j d (f+a*8+2) (.slice d6 c.cases.length d7):=(y.cell z).trans (A 2 _ rfl);have g8:J4 j d (f+a*8+3) (.a c.els):=(y.cell z).trans (A 3 _ rfl);have g9:J4 j d (f+a*8+4) (.a c.fall):=(y.cell z).trans (A 4 _ rfl);have h2:J4 j d (f+a*8+5) (.bool c.fin):=(y.cell z).trans (A 5 _ rfl);have h3:J4 j d (f+a*8+6) (.bool c.bad):=(y.cell z).trans (A 6 _ rfl);have h4:J4 j d (f+a*8+7) (.string c.give):=(y.cell z).trans (A 7 _ rfl);have c8:j.cell? ⟨t.ab,1,none⟩=some (.slice (some ⟨d,f,none⟩) t.steps.length t.sc):=by rw[<-g3];exact I.o.ca
  have c4:j.cell? ⟨t.tb,0,none⟩=some (.a (a:Int)):=by rw[<-R];exact I.o.ct
  obtain⟨xa,xc,c0,h5⟩:=bv I.o.txt;have⟨o1,m4⟩:=aH c0 h5;have m5:Hid (L.length<=xc):=by
   have h1:=I.o.txt;rw[c0] at h1;show _<=_;rcases h1.2 with⟨e,h0⟩|⟨g,cp,o2,e,_,_,m6,_⟩
   .have o3:L.length=0:=h0;omega
   .simp only[OG] at e;have o4:L.length<=cp:=m6;omega
  have cx:j.cell? ⟨t.xb,0,none⟩=some (.slice xa L.length xc):=by rw[<-c0];exact I.o.cx
  have az:=I.o.ra.lt;have tz:=I.o.rt.lt;have xz:=I.o.rx.lt;have J:d<j.heap.size:=NR z y.size;have h6:Hid (∀u,K_ j u->J4 u t.ab 1 (.slice (some ⟨d,f,none⟩) t.steps.length t.sc)/\J4 u t.tb 0 (.a (a:Int))/\J4 u d (f+a*8) (.slice a2 c.asks.length a3)/\J4 u d (f+a*8+1) (.a c.on)/\J4 u d (f+a*8+2) (.slice d6 c.cases.length d7)/\J4 u d (f+a*8+3) (.a c.els)/\J4 u d (f+a*8+4) (.a c.fall)/\J4 u d (f+a*8+5) (.bool c.fin)/\J4 u d (f+a*8+6) (.bool c.bad)/\J4 u d (f+a*8+7) (.string c.give)/\J4 u t.xb 0 (.slice xa L.length xc)):=λu K=>⟨(K.cell az).trans c8,(K.cell tz).trans c4,(K.cell J).trans g5,(K.cell J).trans g6,(K.cell J).trans g7,(K.cell J).trans g8,(K.cell J).trans g9,(K.cell J).trans h2,(K.cell J).trans h3,(K.cell J).trans h4,(K.cell xz).trans cx⟩
  have m7:=Kz d8;have o5:(a:Int)<(t.steps.length:Int):=A7;have m8:=y;have⟨o6,o7⟩:=aH a1 R;clear a1 R c0 h5 c8 c4 cx az tz xz J z A d8 g4 g3 g5 g6 g7 g8 g9 h2 h3 h4;obtain⟨V,W,X,Y,Z,tx,h7⟩:∃V W X Y Z tx,pQ c a2 a3 L=fJ 1 V W X Y Z tx:=by
   unfold pQ
   split
   .exact⟨_,_,_,_,_,_,rfl⟩
   .exact⟨_,_,_,_,_,_,rfl⟩
  have h8:=Kz h7;clear h7;refine bn 7 h6.o λwd T N=>?_
  refine ax 0 N ?_;refine ae 4 N ?_;refine ae 5 N ?_;refine aF 6 (λK l=>?_);go_simp
  go_at_call 147
  refine (xI wz wd h9 (m8.trans T) c a2 a3 d6 d7 xa xc (L) d1 D5 m5.o (m4.o.kept T)).mono ?_;rintro e wc ⟨rfl,kc⟩;have KC:=T.trans kc;rw[h8.o];dsimp only[fJ];refine af l (λ_=>h6.o _ KC) ?_;clear l K N;have d9:=Kz (m3.o.kept KC);refine aF 7 (λK l=>?_);refine wp_store_mid 207 _ _ rfl w.heap.size 0 #[.a 1,.slice V W X,.bool Y,.bool Z,.string tx] D8 D8 d9.o.there C9 (wZ ..) ?_;refine af l (λa5=>absurd rfl a5) ?_;clear l K;refine aG ?_;go_wp2
  have hX:=NU wc w.heap.size 0 [.a 1,.slice V W X,.bool Y,.bool Z,.string tx] (d9.o.row.there (o:=0) (m:=5) (NQ _));refine X_ [.a 1,.slice V W X,.bool Y,.bool Z,.string tx] _ results146 rfl hX underlying207 rfl Tryz.jw rfl ?_;have c1:=I.o.kept KC;have kS:But (λb=>b=w.heap.size) wc (wc.setCells w.heap.size 0 [.a 1,.slice V W X,.bool Y,.bool Z,.string tx]):=gP (S:=λb=>b=w.heap.size) (.inl rfl) _ 0 (But.au (K_.refl _));have b0:=c1.but kS (λx O e=>c1.own_ne d9.o.type A8 A8 A8 (by have e2:x=w.heap.size:=e;rw[<-e2];exact O)) (λe=>by have e2:t.ab=w.heap.size:=e;have o8:=e6.o.ra.lt;exact e7 e2);have e0:=gP (S:=(· ∈t.own)) (.inr (NQ _)) [.a 1,.slice V W X,.bool Y,.bool Z,.string tx] 0 (g2.o.trans' KC);rw[b6.o];rw[HV.o,HL.o] at b0;refine .inr ⟨d0.o,_,⟨a2,a3, ?_, ?_,b0,e0⟩,m0.o⟩
  .rw[b7.o];show _=Ending.returned (pQ c a2 a3 (t.r.texts++aW xs));rw[<-HL.o,h8.o];rfl
  .rw[b7.o];exact m7.o
 .rw[Q] at p1;have d0:=Kz Q;have o9:=Kz (c5.o.kept K7);clear Q;go_wp2_with fail
  refine (uf F true g.text).mono ?_;rintro e G ⟨rfl,m9⟩;dsimp only[fJ];have K8:=K7.trans m9;have a8:=Kz (c5.o.kept K8);obtain⟨⟨⟨_,p0⟩,p4⟩,⟨⟨_,p5⟩,p6⟩,⟨⟨_,p7⟩,p8⟩,⟨⟨_,p9⟩,q0⟩,⟨_,q1⟩,q2⟩:=a8.o.row.uT;have q3:=a8.o.lt;clear p1 p2 p3;go_wp2_with fail
  have hX:=NU G w.heap.size 0 [.a 1,J3,.bool true,.bool true,.string g.text] (a8.o.row.there (o:=0) (m:=5) (NQ _));refine X_ [.a 1,J3,.bool true,.bool true,.string g.text] _ results146 rfl hX underlying207 rfl Tryz.jw rfl ?_;have c1:=a0.o.kept K8;have kS:But (λb=>b=w.heap.size) G (G.setCells w.heap.size 0 [.a 1,J3,.bool true,.bool true,.string g.text]):=gP (S:=λb=>b=w.heap.size) (.inl rfl) _ 0 (But.au (K_.refl _));have b0:=c1.but kS (λx O e=>b3 x O e) (λe=>e7 e);have e0:=gP (S:=(· ∈t.own)) (.inr (NQ _)) [.a 1,J3,.bool true,.bool true,.string g.text] 0 (b4.o.trans' K8);rw[b6.o];rw[HV.o] at b0;exact .inl ⟨d0.o,rfl,b0,e0⟩
def gB(W:bR)(r:Qz):List Ps:=if r.Zj=0\/r.over=true then [] else match W r.name with
 | some A=>(stepOf A r.at').asks
 | none=>[]
theorem dE.like(h:dE base w t){b:Qz}(c:t.r.Zj=b.Zj)(h2:t.r.at'=b.at')(d:t.r.texts=b.texts):dE base w {t with r:=b}:=
 ⟨h.rv,by rw[h.cv,c],h.rt,by rw[h.ct,h2],h.rx,h.cx,h.ra,h.ca,by have:=h.txt;rw[d] at this;exact this,h.low,h.ne⟩
def J_(wz w:Pv)(t:fB)(r':Qz)(asks:List Ps)(w':Pv)(e:Ending):Prop:=
 ∃(tv':Pw) (qa:Pt) (qc:Nat),e= .returned (fJ (r'.Zj-t.r.Zj) qa asks.length qc r'.over r'.fail r'.text)/\Strs wz qa asks/\dE wz.heap.size w' {t with r:=r',tv:=tv'}/\But (· ∈t.own) w w'/\∀x,tv'.ownBlock=some x->t.tv.ownBlock=some x\/w.heap.size<=x
theorem vZ(w:Pv):Strs w none []:=λi b=>Pg b (Nat.not_lt_zero i)
theorem Ea{wz w':Pv}{tv':Pw}{r1 a:Qz}{A:eY}{s:Xj}{e:Ending}(p:MV wz w t {t with tv:=tv',r:=a} s w' e)(i:s=stepOf A r1.at')(C:r1.Zj=t.r.Zj)(q:r1.over=false)(v:r1.fail=false)(y:r1.text= ⟨#[]⟩)(j:a.Zj=r1.Zj+1)(k:a.at'=r1.at')(c:a.texts=r1.texts)(z:s.fin=true->s.asks=[])(l:∀x,tv'.ownBlock=some x->t.tv.ownBlock=some x\/w.heap.size<=x):J_ wz w t (bK A r1).1 (bK A r1).2 w' e:=by
 obtain⟨d,f,rfl,B,m,n⟩:=p;cases b:s.fin with
 | true=>
  have h:bK A r1= ({r1 with Zj:=r1.Zj+1,over:=true,fail:=s.bad,text:=jl s.give r1.texts},[]):=by
   unfold bK;rw[<-i,z b,Pe b]
  rw[h];refine⟨tv',none,0, ?_,vZ wz, ?_,n,l⟩
  .unfold pQ;rw[Pe b];show Ending.returned (fJ 1 none 0 0 true s.bad (jl s.give a.texts))=Ending.returned (fJ (r1.Zj+1-t.r.Zj) none 0 0 true s.bad (jl s.give r1.texts));rw[c,show r1.Zj+1-t.r.Zj=1 by omega]
  .exact m.like j k c
 | false=>
  have h:bK A r1= ({r1 with Zj:=r1.Zj+1},s.asks):=by
   unfold bK;rw[<-i,Pf (by rw[b];simp)]
  rw[h];refine⟨tv',d,f, ?_,B, ?_,n,l⟩
  .unfold pQ;rw[Pf (by rw[b];simp)];show Ending.returned (fJ 1 d s.asks.length f false false ⟨#[]⟩)=Ending.returned (fJ (r1.Zj+1-t.r.Zj) d s.asks.length f r1.over r1.fail r1.text);rw[q,v,y,show r1.Zj+1-t.r.Zj=1 by omega]
  .exact m.like j k c
def fB.fE(t:fB):Zx:=⟨0,t.r,t.cost,t.steps,t.sa,t.sc,0,t.tv,t.tv,[],⟨#[]⟩⟩
def JH(r:Qz):Zx:=⟨0,r,0,[],none,0,0,J3,J3,[],⟨#[]⟩⟩
theorem Gv(l:List Qz):Qk (l.map JH)=l:=by
 unfold Qk;rw[List.map_map];exact (List.map_congr_left (λ_ _=>rfl)).trans (List.map_id l)
theorem Ma{Kj:List Qq}{sl:List Qz}(B:aX (Q_ Kj))(F:∀y∈Kj,y.Fits)(G:dR Kj sl)(wz w:Pv)(H:dA wz)(I:K_ wz w)(v:dE wz.heap.size w t)(c:Q_ Kj t.r.name=some ⟨t.cost,t.steps⟩)(J:Steps wz t.sa t.steps)(hgd:t.r.Good Kj)(z:aZ (Q_ Kj) (Qj sl) t.r)(A:t.r.fail=false/\t.r.text= ⟨#[]⟩)(K:Nat)(m:Pt)(dc:Nat)(xs:List Xq)(T:w.ownsRow K 80 2 (.slice m xs.length dc) xs.length (bO xs))
 (i:t.r.Zj≠0->Yq (Q_ Kj) (Qj sl) (stepOf ⟨t.cost,t.steps⟩ t.r.at').asks=some xs):
  Calls prog 146 #[.slice m xs.length dc,.c t.vb,.c t.ab,.c t.tb,.c t.xb] w λe w'=>J_ wz w t (Y_ (Q_ Kj) (Qj sl) t.r).1 (Y_ (Q_ Kj) (Qj sl) t.r).2 w' e:=by
 obtain⟨U,n,L,C⟩:=hgd.act;rw[c] at n;cases n;dsimp only at C;have a6:=hgd.lo;have a7:=hgd.hi;have a8:=hgd.tl;obtain⟨j,D⟩:∃j:Nat,t.r.at'= (j:Int):=⟨t.r.at'.toNat,A7⟩;have M:j<t.steps.length:=A7;have N:stepOf ⟨t.cost,t.steps⟩ t.r.at'=t.steps.getD j Xj.zero:=by unfold stepOf;rw[D];rfl
 have O:∀{x:Int},0<=x->x<t.steps.length->(stepOf ⟨t.cost,t.steps⟩ x).fin=true->(stepOf ⟨t.cost,t.steps⟩ x).asks=[]:=λa b V=>mO (t:=t.fE) B c a b rfl V
 have P:∀{x:Int},0<=x->x<t.steps.length->(stepOf ⟨t.cost,t.steps⟩ x).give.size<=maxLen:=λa b=>Ag (t:=t.fE) F c a b rfl
 by_cases f:t.r.Zj=0
 .have d:Y_ (Q_ Kj) (Qj sl) t.r=bK ⟨t.cost,t.steps⟩ t.r:=by
   unfold Y_;rw[c];simp only;rw[Pe f]
  rw[d];refine (Iq wz w H I v J f j D M _ N (P L C) A7 (.slice m xs.length dc)).mono (λe w' p=>?_);exact Ea (tv':=t.tv) (r1:=t.r) p rfl rfl z.1 A.1 A.2 (by show (1:Int)=t.r.Zj+1;omega) rfl rfl (O L C) (λx i=>.inl i)
 have k:=i f;by_cases q:t.r.Zj=20
 .have d:Y_ (Q_ Kj) (Qj sl) t.r= ({t.r with over:=true,fail:=true,text:=gX},[]):=by
   unfold Y_;rw[c];simp only;rw[Pf f,k];simp only;rw[Pe q]
  rw[d];refine (Hr w v q (.slice m xs.length dc)).mono (λe w' p=>?_);obtain⟨rfl,Q⟩:=p;refine⟨t.tv,none,0, ?_,vZ wz,(v.kept Q).like rfl rfl rfl,But.au Q,λx i=>.inl i⟩;show Ending.returned (fJ 0 none 0 0 true true gX)=Ending.returned (fJ (t.r.Zj-t.r.Zj) none 0 0 true true gX);rw[Int.sub_self]
 obtain⟨s,l⟩:=ai (stepOf ⟨t.cost,t.steps⟩ t.r.at');rw[<-l] at k;have E:=Gv sl;obtain⟨W,X,f3,Y,Z,R,f7⟩:=xV (ts:=sl.map JH) (t:=t.fE) B F c hgd (by rw[E];exact z) (by rw[E];exact G) f l (by rw[E];exact k);have a0:=jc R;have a1:xs.length<=5:=by have:=R.1;omega
 have hg:=dm B G.env hgd z;have S:(bQ s xs).over=false->0<=(bQ s xs).at'/\(bQ s xs).at' < t.steps.length:=λh=>by
  have d:Y_ (Q_ Kj) (Qj sl) t.r=bK ⟨t.cost,t.steps⟩ {t.r with texts:=t.r.texts++aW xs,at':=(bQ s xs).at'}:=by
   unfold Y_;rw[c];simp only;rw[Pf f,<-l,k];simp only;rw[Pf q,Pf (by rw[h];simp)]
  obtain⟨U,n,a,b⟩:=hg.act;have en:(Y_ (Q_ Kj) (Qj sl) t.r).1.name=t.r.name:=bP;rw[en,c] at n;cases n;have ea:(Y_ (Q_ Kj) (Qj sl) t.r).1.at'= (bQ s xs).at':=by
   rw[d];unfold bK;simp only
   split <;> rfl
  rw[ea] at a b;exact⟨a,b⟩
 refine (Ie wz w H I v J A7 A7 j D M s (l.trans N) X K m dc xs T a1 f7 a0 W Y Z (λh=>?_) A7).mono (λe w' p=>?_)
 .obtain⟨a,b⟩:=S h;exact⟨a,b,P a b⟩
 rcases p with⟨h,rfl,a2,a3⟩|⟨h,a9,a4,a5⟩
 .have d:Y_ (Q_ Kj) (Qj sl) t.r= ({t.r with Zj:=t.r.Zj+1,over:=true,fail:=true,text:=(bQ s xs).text},[]):=by
   unfold Y_;rw[c];simp only;rw[Pf f,<-l,k];simp only;rw[Pf q,Pe h]
  rw[d];refine⟨t.tv,none,0, ?_,vZ wz,a2.like rfl rfl rfl,a3,λx i=>.inl i⟩;show Ending.returned (fJ 1 none 0 0 true true (bQ s xs).text)=Ending.returned (fJ (t.r.Zj+1-t.r.Zj) none 0 0 true true (bQ s xs).text);rw[show t.r.Zj+1-t.r.Zj=1 by omega]
 .have d:Y_ (Q_ Kj) (Qj sl) t.r=bK ⟨t.cost,t.steps⟩ {t.r with texts:=t.r.texts++aW xs,at':=(bQ s xs).at'}:=by
   unfold Y_;rw[c];simp only;rw[Pf f,<-l,k];simp only;rw[Pf q,Pf (by rw[h];simp)]
  obtain⟨a,b⟩:=S h;rw[d];exact Ea (r1:={t.r with texts:=t.r.texts++aW xs,at':=(bQ s xs).at'}) a4 rfl rfl z.1 A.1 A.2 rfl rfl rfl (O a b) a5
theorem xS{Kj:List Qq}{sl:List Qz}(i:aX (Q_ Kj))(q:dR Kj sl){r:Qz}(hgd:r.Good Kj)(f:aZ (Q_ Kj) (Qj sl) r):(Y_ (Q_ Kj) (Qj sl) r).2=gB (Q_ Kj) (Y_ (Q_ Kj) (Qj sl) r).1:=by
 have a:=dm i q.env hgd f;obtain⟨A,d,s,v⟩:=hgd.act;have j:∀b:Qz,b.name=r.name->b.over=false->0<=b.Zj->0<=b.at'->b.at' < A.steps.length->(bK A b).2=gB (Q_ Kj) (bK A b).1:=λb h w D x y=>by
  unfold bK gB;simp only;cases z:(stepOf A b.at').fin with
  | true=>
   simp only[if_true,or_true];exact mO (t:={JH r with cost:=A.cost,steps:=A.steps}) i d x y rfl z
  | false=>
   simp only[Bool.false_eq_true,if_false];rw[Pf (by rw[w];simp;omega),h,d]
 unfold Y_ at a⊢;rw[d] at a⊢;simp only at a⊢
 split
 .exact j r rfl f.1 hgd.lo s v
 .rename_i hv0
  rw[Pf hv0] at a
  split
  .next e=>
   exfalso
   rcases f.2 with B|⟨E,c,k,l⟩
   .exact hv0 B
   .rw[d] at k;cases k;rw[e] at l;cases l
  .next c e=>
   rw[e] at a;simp only at a
   split
   .unfold gB;simp
   .rename_i hv20
    rw[Pf hv20] at a
    split
    .unfold gB;simp
    .rename_i ho
     rw[Pf ho] at a;obtain⟨F,m,n,p⟩:=a.act;have h:(bK A {r with texts:=r.texts++aW c,at':=(bQ (stepOf A r.at') c).at'}).1.name=r.name:=by unfold bK;simp only;split <;> rfl
     have C:(bK A {r with texts:=r.texts++aW c,at':=(bQ (stepOf A r.at') c).at'}).1.at'= (bQ (stepOf A r.at') c).at':=by unfold bK;simp only;split <;> rfl
     rw[h,d] at m;cases m;rw[C] at n p;exact j _ rfl f.1 hgd.lo n p
def LP(wz w:Pv)(n:Ps)(cost:Int)(steps:List Xj)(sa:Pt)(w':Pv)(e:Ending):Prop:=
 ∃t:fB,e= .returned t.fn/\dE wz.heap.size w' t/\t.r=Qz.fresh n/\t.cost=cost/\t.steps=steps/\t.sa=sa/\K_ w w'/\w.heap.size<=t.ab/\∀x∈t.own,w.heap.size<=x
theorem GU(wz w:Pv)(B:K_ wz w)(n:Ps)(cost:Int)(steps:List Xj)(h:Pt)(i:Nat):
  Calls prog 101 #[.agg #[.a cost,.slice h steps.length i]] w λe w'=>LP wz w n cost steps h w' e:=by
 go_enter func101,ntmps101
 go_wp2
 go_ret
 obtain⟨a,j⟩:=ai (w.alloc (.cells #[.a cost,.slice h steps.length i] 73));obtain⟨b,k⟩:=ai (a.alloc (.cells #[.a 0] 3));obtain⟨c,l⟩:=ai (b.alloc (.cells #[.a 0] 3));obtain⟨r,p⟩:=ai (c.alloc (.cells #[J3] 26));rw[<-j,<-k,<-l,<-p];have C:K_ w a:=by rw[j];exact ah _ _
 have m:K_ a b:=by rw[k];exact ah _ _
 have d:K_ b c:=by rw[l];exact ah _ _
 have f:K_ c r:=by rw[p];exact ah _ _
 have s:a.heap.size=w.heap.size+1:=by rw[j,OC]
 have t:b.heap.size=w.heap.size+1+1:=by rw[k,OC,s]
 have y:c.heap.size=w.heap.size+1+1+1:=by rw[l,OC,t]
 have q:aB a w.heap.size 73 2:=by rw[j];exact aB.made w _ _
 have v:aB b (w.heap.size+1) 3 1:=by rw[k,<-s];exact aB.made a #[.a 0] _
 have z:aB c (w.heap.size+1+1) 3 1:=by rw[l,<-t];exact aB.made b #[.a 0] _
 have D:aB r (w.heap.size+1+1+1) 26 1:=by rw[p,<-y];exact aB.made c #[J3] _
 have E:a.cell? ⟨w.heap.size,1,none⟩=some (.slice h steps.length i):=by rw[j];exact Xz w #[.a cost,.slice h steps.length i] 73 1 _ rfl
 have F:b.cell? ⟨w.heap.size+1,0,none⟩=some (.a 0):=by rw[k,<-s];exact Xz a #[.a 0] 3 0 _ rfl
 have G:c.cell? ⟨w.heap.size+1+1,0,none⟩=some (.a 0):=by rw[l,<-t];exact Xz b #[.a 0] 3 0 _ rfl
 have H:r.cell? ⟨w.heap.size+1+1+1,0,none⟩=some J3:=by rw[p,<-y];exact Xz c #[J3] 26 0 _ rfl
 have I:=B.size;refine⟨⟨Qz.fresh n,cost,steps,h,i,w.heap.size+1+1,w.heap.size,w.heap.size+1,w.heap.size+1+1+1,J3⟩,rfl,⟨z.kept f,(f.cell z.lt).trans G,(v.kept d).kept f,(f.cell (v.kept d).lt).trans ((d.cell v.lt).trans F),D,H,((q.kept m).kept d).kept f,(f.cell ((q.kept m).kept d).lt).trans ((d.cell (q.kept m).lt).trans ((m.cell q.lt).trans E)),OO _ _ _ _,⟨?_, ?_, ?_, ?_⟩, ?_⟩,rfl,rfl,rfl,rfl,((C.trans m).trans d).trans f,NQ _,λx J=>?_⟩
 .show wz.heap.size<=w.heap.size+1+1;omega
 .show wz.heap.size<=w.heap.size+1;omega
 .show wz.heap.size<=w.heap.size+1+1+1;omega
 .exact I
 .show w.heap.size+1+1≠w.heap.size+1;omega
 .rcases dx.1 J with e|e|e|e
  .have A:x=w.heap.size+1+1:=e;omega
  .have A:x=w.heap.size+1:=e;omega
  .have A:x=w.heap.size+1+1+1:=e;omega
  .cases e
theorem Tryz.Mg(w:Pv):(zeroValue 166).run prog w= .ok .nilFunc w:=C9
theorem Tryz.Lh(w:Pv):(zeroValue 207).run prog w= .ok (fJ 0 none 0 0 false false ⟨#[]⟩) w:=C9
def rP :Pw:=fJ 0 none 0 0 false false ⟨#[]⟩
def fnC(cl:Ps->Option fB)(s:Ps):Pw:=match cl s with
 | some t=>t.fn
 | none=>.nilFunc
variable {n : Ps}
theorem Co{cl:Ps->Option fB}:fnC (λm=>if m=n then some t else cl m) n=t.fn:=by unfold fnC;simp
variable {s : Ps}
theorem AO{cl:Ps->Option fB}(h:s≠n):fnC (λm=>if m=n then some t else cl m) s=fnC cl s:=by unfold fnC;simp[h]
structure CM (Kj:List Qq) (wz w:Pv) (cb:Nat) (a:Pt) (cap mr mt mx:Nat) (cl:Ps->Option fB) (f:Ps->Pw) (kf:Ps->Prop) (un co:Int):Prop where
 kw:K_ wz w
 row:aB w cb 105 6
 c0:w.cell? ⟨cb,0,none⟩=some (.slice a Kj.length cap)
 c1:w.cell? ⟨cb,1,none⟩=some (.func (.func 99) #[] #[])
 c2:w.cell? ⟨cb,2,none⟩=some (.map (some mr))
 c3:w.cell? ⟨cb,3,none⟩=some (.map (some mt))
 c4:w.cell? ⟨cb,4,none⟩=some (.a un)
 c5:w.cell? ⟨cb,5,none⟩=some (.a co)
 low:wz.heap.size<=cb
 clo:∀n t,cl n=some t->t.r.name=n/\Q_ Kj n=some ⟨t.cost,t.steps⟩/\Steps wz t.sa t.steps/\dE wz.heap.size w t
 sep:∀n m t u,cl n=some t->cl m=some u->n≠m->∀x∈t.own,x∉u.own
 runs:∃N D,N<=mx/\w.ownsMap prog 9 asIs mr N D/\(∀s:Ps,s.size<=maxLen->D.atKey (a_ s) (.held .nilFunc)= .held (fnC cl s))/\∀s:Ps,Maps.has D (a_ s)=true↔(cl s).isSome=true
 El:wz.heap.size<=mr
 turns:∃N D,N<=mx/\w.ownsMap prog 9 asIs mt N D/\(∀s:Ps,s.size<=maxLen->D.atKey (a_ s) (.held rP)= .held (f s))/\∀s:Ps,Maps.has D (a_ s)=true↔kf s
 Eo:wz.heap.size<=mt
 mne:mr≠mt
section
variable {Kj : List Qq} {wz w w' : Pv} {cb : Nat} {a : Pt} {cap mr mt mx : Nat} {cl : Ps -> Option fB} {f : Ps -> Pw} {kf : Ps -> Prop} {un co : Int}
theorem CM.but(h:CM Kj wz w cb a cap mr mt mx cl f kf un co)(k:But S w w')(j:∀b,S b->wz.heap.size<=b)(c:¬S cb)(h2:¬S mr)(l:¬S mt)(i:∀n t,cl n=some t->¬S t.ab/\∀x∈t.own,¬S x):CM Kj wz w' cb a cap mr mt mx cl f kf un co:=by
 have d:=h.row.lt;obtain⟨m,p,q,r,s⟩:=h.runs;obtain⟨v,y,z,A,B⟩:=h.turns;exact⟨k.kept h.kw j,k.row h.row c,(k.cell d c).trans h.c0,(k.cell d c).trans h.c1,(k.cell d c).trans h.c2,(k.cell d c).trans h.c3,(k.cell d c).trans h.c4,(k.cell d c).trans h.c5,h.low,
  λn t e=>let g:=h.clo n t e;⟨g.1,g.2.1,g.2.2.1,g.2.2.2.but k (i n t e).2 (i n t e).1⟩,h.sep,⟨m,p,q,dN r k h2,s⟩,h.El,⟨v,y,z,dN A k l,B⟩,h.Eo,h.mne⟩
theorem CM.kept(h:CM Kj wz w cb a cap mr mt mx cl f kf un co)(k:K_ w w'):CM Kj wz w' cb a cap mr mt mx cl f kf un co:=
 h.but (S:=λ_=>False) (But.au k) (λ_ h=>h.elim) id id id (λ_ _ _=>⟨id,λ_ _=>id⟩)
theorem CM.more{b:Nat}(h:CM Kj wz w cb a cap mr mt mx cl f kf un co)(c:mx<=b):CM Kj wz w cb a cap mr mt b cl f kf un co:=by
 obtain⟨d,e,i,j⟩:=h.runs;obtain⟨k,l,m,n⟩:=h.turns;exact⟨h.kw,h.row,h.c0,h.c1,h.c2,h.c3,h.c4,h.c5,h.low,h.clo,h.sep,⟨d,e,NT i c,j⟩,h.El,⟨k,l,NT m c,n⟩,h.Eo,h.mne⟩
theorem CM.Mw(h:CM Kj wz w cb a cap mr mt mx cl f kf un co)(c:s.size<=maxLen):(Instr.lookup 102 (.map (some mr)) (.string s) false).run prog w= .ok (fnC cl s) w:=by
 obtain⟨N,D,_,d,e⟩:=h.runs;obtain⟨v,l,i,b⟩:=d.lookup Tryz.keyed underlying102 (Tryz.Mg w) (zd:= .held .nilFunc) (zp:=[]) rfl (WideMaps.keyOf_string_mk underlying9 c);have j:=e.1 s c;unfold asIs at b;simp only[OE,Prod.mk.injEq] at b;have k:(DataW.held v:DataW Pw)= .held (fnC cl s):=b.1.trans j;cases k;exact i
theorem CM.MB(h:CM Kj wz w cb a cap mr mt mx cl f kf un co)(c:s.size<=maxLen):(Instr.lookup 103 (.map (some mt)) (.string s) false).run prog w= .ok (f s) w:=by
 obtain⟨N,D,_,d,e⟩:=h.turns;obtain⟨v,l,i,b⟩:=d.lookup Tryz.keyed underlying103 (Tryz.Lh w) (zd:= .held rP) (zp:=[]) rfl (WideMaps.keyOf_string_mk underlying9 c);have j:=e.1 s c;unfold asIs at b;simp only[OE,Prod.mk.injEq] at b;have k:(DataW.held v:DataW Pw)= .held (f s):=b.1.trans j;cases k;exact i
theorem CM.qH(h:CM Kj wz w cb a cap mr mt mx cl f kf un co){b:Nat}{t:TypeId}(k:bf w b t):b≠mr/\b≠mt:=by
 obtain⟨e,i,j,c,l⟩:=h.runs;obtain⟨m,n,p,d,q⟩:=h.turns;exact⟨gV c k,gV d k⟩
theorem CM.Cj(h:CM Kj wz w cb a cap mr mt mx cl f kf un co)(e:cl n=some t):mr∉t.own/\mt∉t.own/\cb∉t.own:=by
 have c:=(h.clo n t e).2.2.2;refine⟨λd=>?_,λd=>?_,c.own_ne h.row.type A8 A8 A8⟩
 .rcases (c.bH d).1 with g | g | g <;> exact (h.qH g).1 rfl
 .rcases (c.bH d).1 with g | g | g <;> exact (h.qH g).2 rfl
theorem CM.putT(h:CM Kj wz w cb a cap mr mt mx cl f kf un co)(r:s.size<=maxLen)(v:Pw)(J:mx<=1000000):
  ∃w2,(Instr.mapUpdate 103 (.map (some mt)) (.string s) v).run prog w= .ok () w2/\CM Kj wz w2 cb a cap mr mt (mx+1) cl (λn=>if n=s then v else f n) (λn=>n=s\/kf n) un co/\But (λb=>b=mt) w w2:=by
 obtain⟨N,D,K,m,p⟩:=h.turns;obtain⟨w2,y,z,A⟩:=m.update Tryz.keyed underlying103 D5 (WideMaps.keyOf_string_mk underlying9 r) (d:= .held v) (ps:=[]) rfl;have c:But (λb=>b=mt) w w2:=But.aI A (λb e=>(OQ e).symm);have q:Maps.IsMap D:=by obtain⟨L,M,_,_,_,rfl⟩:=m;exact⟨_,rfl⟩
 have j:=h.row.lt;have i:¬cb=mt:=(h.qH h.row.type).2;obtain⟨B,C,O,E,F⟩:=h.runs;refine⟨w2,y,⟨c.kept h.kw (λb e=>by have l:b=mt:=e;rw[l];exact h.Eo),c.row h.row i,(c.cell j i).trans h.c0,(c.cell j i).trans h.c1,(c.cell j i).trans h.c2,(c.cell j i).trans h.c3,(c.cell j i).trans h.c4,(c.cell j i).trans h.c5,h.low, ?_,h.sep,⟨B,C,A7,dN E c h.mne,F⟩,h.El,⟨N+1,_,A7,z,λn G=>?_,λn=>?_⟩,h.Eo,h.mne⟩,c⟩
 .intro n t e;have g:=h.clo n t e;exact⟨g.1,g.2.1,g.2.2.1,g.2.2.2.but c (λx H l=>(h.Cj e).2.1 (by have I:x=mt:=l;rw[<-I];exact H)) (h.qH g.2.2.2.ra.type).2⟩
 .by_cases e:n=s
  .rw[Pe e,e];exact Maps.atKey_put_same (k:=a_ s) q (by show WideAt.IsKeyLit (.string _);exact trivial) _ _
  .rw[Pf e,<-p.1 n G];exact Maps.atKey_put_other (gm e) _ _
 .by_cases e:n=s
  .rw[e];exact⟨λ_=>.inl rfl,λ_=>Maps.has_put_same (k:=a_ s) q (by show WideAt.IsKeyLit (.string _);exact trivial) (.held v)⟩
  .have l:(n=s\/kf n)↔kf n:=⟨λh=>h.resolve_left e,.inr⟩;rw[l,<-p.2 n];exact Eq.to_iff (congrArg (· =true) (Maps.has_put_other (gm e) _))
theorem CM.sH(h:CM Kj wz w cb a cap mr mt mx cl f kf un co)(J:s.size<=maxLen)(y:t.r.name=s)(K:Q_ Kj s=some ⟨t.cost,t.steps⟩)(L:Steps wz t.sa t.steps)(M:dE wz.heap.size w t)(C:∀m u,m≠s->cl m=some u->∀x∈t.own,x∉u.own)(X:mx<=1000000):
  ∃w2,(Instr.mapUpdate 102 (.map (some mr)) (.string s) t.fn).run prog w= .ok () w2/\CM Kj wz w2 cb a cap mr mt (mx+1) (λn=>if n=s then some t else cl n) f kf un co/\But (λb=>b=mr) w w2:=by
 obtain⟨N,O,Y,D,E⟩:=h.runs;obtain⟨w2,P,Q,R⟩:=D.update Tryz.keyed underlying102 D5 (WideMaps.keyOf_string_mk underlying9 J) (d:= .held t.fn) (ps:=[]) rfl;have c:But (λb=>b=mr) w w2:=But.aI R (λb e=>(OQ e).symm);have F:Maps.IsMap O:=by obtain⟨Z,a0,_,_,_,rfl⟩:=D;exact⟨_,rfl⟩
 have p:=h.row.lt;have l:¬cb=mr:=(h.qH h.row.type).1;have G:∀{u:fB},dE wz.heap.size w u->dE wz.heap.size w2 u:=λ{u} z=>z.but c (λx q i=>by
  have S:x=mr:=i;rcases (z.bH q).1 with g | g | g <;> exact (h.qH g).1 S) (h.qH z.ra.type).1
 obtain⟨T,U,a1,V,W⟩:=h.turns;refine⟨w2,P,⟨c.kept h.kw (λb e=>by have i:b=mr:=e;rw[i];exact h.El),c.row h.row l,(c.cell p l).trans h.c0,(c.cell p l).trans h.c1,(c.cell p l).trans h.c2,(c.cell p l).trans h.c3,(c.cell p l).trans h.c4,(c.cell p l).trans h.c5,h.low, ?_, ?_,⟨N+1,_,A7,Q,λn y=>?_,λn=>?_⟩,h.El,⟨T,U,A7,dN V c (λe=>h.mne e.symm),W⟩,h.Eo,h.mne⟩,c⟩
 .intro n u e;by_cases j:n=s
  .rw[Pe j] at e;cases e;rw[j];exact⟨y,K,L,G M⟩
  .rw[Pf j] at e;have g:=h.clo n u e;exact⟨g.1,g.2.1,g.2.2.1,G g.2.2.2⟩
 .intro n m u H v i A x q B;by_cases j:n=s
  .rw[Pe j] at v;cases v;rw[Pf (λe=>A (j.trans e.symm))] at i;exact C m H (λe=>A (j.trans e.symm)) i x q B
  .rw[Pf j] at v;by_cases I:m=s
   .rw[Pe I] at i;cases i;exact C n u j v x B q
   .rw[Pf I] at i;exact h.sep n m u H v i A x q B
 .by_cases e:n=s
  .rw[e,Co];exact Maps.atKey_put_same (k:=a_ s) F (by show WideAt.IsKeyLit (.string _);exact trivial) _ _
  .rw[AO e,<-E.1 n y];exact Maps.atKey_put_other (gm e) _ _
 .by_cases e:n=s
  .rw[Pe e,e];exact⟨λ_=>rfl,λ_=>Maps.has_put_same (k:=a_ s) F (by show WideAt.IsKeyLit (.string _);exact trivial) (.held t.fn)⟩
  .rw[Pf e,<-E.2 n];exact Eq.to_iff (congrArg (· =true) (Maps.has_put_other (gm e) _))
theorem CM.called(h:CM Kj wz w cb a cap mr mt mx cl f kf un co)(e:cl n=some t){v:Qz}{tv':Pw}(I:v.name=t.r.name)(J:dE wz.heap.size w' {t with r:=v,tv:=tv'})(k:But (· ∈t.own) w w')(K:∀x,tv'.ownBlock=some x->t.tv.ownBlock=some x\/w.heap.size<=x):
  CM Kj wz w' cb a cap mr mt mx (λm=>if m=n then some {t with r:=v,tv:=tv'} else cl m) f kf un co:=by
 have d:=h.row.lt;have g:=h.clo n t e;obtain⟨L,M,j⟩:=h.Cj e;obtain⟨N,O,P,Q,R,S⟩:=h.runs;obtain⟨T,U,V,W,X⟩:=h.turns;have Y:∀x∈({t with r:=v,tv:=tv'}:fB).own,x∈t.own\/w.heap.size<=x:=λx c=>by
  rcases dx.1 c with q|q|q|q
  .exact .inl (dx.2 (.inl q))
  .exact .inl (dx.2 (.inr (.inl q)))
  .exact .inl (dx.2 (.inr (.inr (.inl q))))
  .rcases K x q with q|q
   .exact .inl (dx.2 (.inr (.inr (.inr q))))
   .exact .inr q
 have F:∀m u,m≠n->cl m=some u->∀x∈({t with r:=v,tv:=tv'}:fB).own,x∉u.own:=λm u Z G x c i=>by
  rcases Y x c with q|q
  .exact h.sep n m t u e G (Ne.symm Z) x q i
  .have:=((h.clo m u G).2.2.2.bH i).2.2;omega
 refine⟨k.kept h.kw (λb d=>(g.2.2.2.bH d).2.1),k.row h.row j,(k.cell d j).trans h.c0,(k.cell d j).trans h.c1,(k.cell d j).trans h.c2,(k.cell d j).trans h.c3,(k.cell d j).trans h.c4,(k.cell d j).trans h.c5,h.low, ?_, ?_,⟨N,O,P,dN Q k L,λy a0=>?_,λy=>?_⟩,h.El,⟨T,U,V,dN W k M,X⟩,h.Eo,h.mne⟩
 .intro m u z;by_cases l:m=n
  .rw[Pe l] at z;cases z;rw[l];exact⟨I.trans g.1,g.2.1,g.2.2.1,J⟩
  .rw[Pf l] at z;have A:=h.clo m u z;exact⟨A.1,A.2.1,A.2.2.1,A.2.2.2.but k (λx c i=>h.sep m n u t z e l x c i) (g.2.2.2.own_ne A.2.2.2.ra.type A8 A8 A8)⟩
 .intro D m u H B p E x c i;by_cases C:D=n
  .rw[Pe C] at B;cases B;rw[Pf (λe=>E (C.trans e.symm))] at p;exact F m H (λe=>E (C.trans e.symm)) p x c i
  .rw[Pf C] at B;by_cases l:m=n
   .rw[Pe l] at p;cases p;exact F D u C B x i c
   .rw[Pf l] at p;exact h.sep D m u H B p E x c i
 .have:=R y a0;rw[this];by_cases s:y=n
  .rw[s,Co];unfold fnC;rw[e]
   rfl
  .rw[AO s]
 .rw[S y];by_cases s:y=n
  .rw[Pe s,s,e];simp
  .rw[Pf s]
theorem CM.setU(h:CM Kj wz w cb a cap mr mt mx cl f kf un co)(v:Int):CM Kj wz (w.setCell ⟨cb,4,none⟩ (.a v)) cb a cap mr mt mx cl f kf v co:=by
 have k:=kv (w:=w) cb 4 (.a v);obtain⟨⟨_,d⟩,E⟩:=h.row.row.at (i:=4) A7;obtain⟨j,l,m,n,p⟩:=h.runs;obtain⟨q,r,s,t,x⟩:=h.turns;have o:∀i,i≠4->(w.setCell ⟨cb,4,none⟩ (.a v)).cell? ⟨cb,i,none⟩=w.cell? ⟨cb,i,none⟩:=λi y=>Ol _ _ _ _ (λe=>y (congrArg Addr.off e).symm)
 exact⟨k.kept h.kw (λb e=>by have c:b=cb:=e;rw[c];exact h.low),h.row.set _,(o 0 A7).trans h.c0,(o 1 A7).trans h.c1,(o 2 A7).trans h.c2,(o 3 A7).trans h.c3,OX _ _ _ (by rw[d]),(o 5 A7).trans h.c5,h.low,λz A e=>let g:=h.clo z A e;⟨g.1,g.2.1,g.2.2.1,g.2.2.2.but k (λB C c=>(h.Cj e).2.2 (by have D:B=cb:=c;rw[<-D];exact C)) (aK g.2.2.2.ra.type h.row.type A8)⟩,h.sep,⟨j,l,m,dN n k (h.qH h.row.type).1.symm,p⟩,h.El,⟨q,r,s,dN t k (h.qH h.row.type).2.symm,x⟩,h.Eo,h.mne⟩
theorem CM.setC(h:CM Kj wz w cb a cap mr mt mx cl f kf un co)(v:Int):CM Kj wz (w.setCell ⟨cb,5,none⟩ (.a v)) cb a cap mr mt mx cl f kf un v:=by
 have k:=kv (w:=w) cb 5 (.a v);obtain⟨⟨_,d⟩,E⟩:=h.row.row.at (i:=5) A7;obtain⟨j,l,m,n,p⟩:=h.runs;obtain⟨q,r,s,t,x⟩:=h.turns;have o:∀i,i≠5->(w.setCell ⟨cb,5,none⟩ (.a v)).cell? ⟨cb,i,none⟩=w.cell? ⟨cb,i,none⟩:=λi y=>Ol _ _ _ _ (λe=>y (congrArg Addr.off e).symm)
 exact⟨k.kept h.kw (λb e=>by have c:b=cb:=e;rw[c];exact h.low),h.row.set _,(o 0 A7).trans h.c0,(o 1 A7).trans h.c1,(o 2 A7).trans h.c2,(o 3 A7).trans h.c3,(o 4 A7).trans h.c4,OX _ _ _ (by rw[d]),h.low,λz A e=>let g:=h.clo z A e;⟨g.1,g.2.1,g.2.2.1,g.2.2.2.but k (λB C c=>(h.Cj e).2.2 (by have D:B=cb:=c;rw[<-D];exact C)) (aK g.2.2.2.ra.type h.row.type A8)⟩,h.sep,⟨j,l,m,dN n k (h.qH h.row.type).1.symm,p⟩,h.El,⟨q,r,s,dN t k (h.qH h.row.type).2.symm,x⟩,h.Eo,h.mne⟩
end
def MQ(Kj:List Qq)(wz:Pv)(o:Option fB)(v:Pw):Prop:=match o with
 | none=>v=rP
 | some t=>∃(u:Int) (qa:Pt) (qc:Nat),v=fJ u qa (gB (Q_ Kj) t.r).length qc t.r.over t.r.fail t.r.text/\Strs wz qa (gB (Q_ Kj) t.r)
structure CS (Kj:List Qq) (wz:Pv) (cl:Ps->Option fB) (f:Ps->Pw) (kf:Ps->Prop) (un co:Int) (sl:List Qz):Prop where
 good:dR Kj sl
 env:∀n,Qj sl n= (cl n).map (·.r)
 turn:∀s,MQ Kj wz (cl s) (f s)
 key:∀s,kf s↔∃t,cl s=some t/\t.r.Zj≠0
 dS:un=dX sl
 cost:co=gy (Q_ Kj) sl
 opn:Ms (Qj sl)
def JS(Kj:List Qq)(l:List Qz)(n:Ps)(e:Ending):Prop:=
 ∃(f:Bool) (t:Ps) (ok:Bool),e= .returned (.tuple #[.agg #[.bool f,.string t],.bool ok])/\aP (Q_ Kj) (Qj l) n= (if ok=true then some ⟨f,t⟩ else none)/\(ok=false->∀r,Qj l n=some r->f=r.fail/\t=r.text)
theorem CS.Np{Kj:List Qq}{wz:Pv}{cl:Ps->Option fB}{f:Ps->Pw}{kf:Ps->Prop}{un co:Int}{sl:List Qz}(h:CS Kj wz cl f kf un co sl)(n:Ps):
  ∃u qa ql qc ov fl tx,f n=fJ u qa ql qc ov fl tx/\((Q_ Kj n).isSome=true->aP (Q_ Kj) (Qj sl) n=if ov=true then some ⟨fl,tx⟩ else none)/\∀r,Qj sl n=some r->ov=r.over/\fl=r.fail/\tx=r.text:=by
 have d:=h.turn n;have b:=h.env n;cases e:cl n with
 | none=>
  rw[e] at d b;refine⟨0,none,0,0,false,false,⟨#[]⟩,d,λa=>?_,λr c=>?_⟩
  .obtain⟨A,a⟩:=Om.1 a;unfold aP;rw[a,b]
   rfl
  .rw[b] at c;cases c
 | some t=>
  rw[e] at d b;obtain⟨u,qa,qc,i,_⟩:=d;refine⟨u,qa,_,qc,_,_,_,i,λa=>?_,λr c=>?_⟩
  .obtain⟨A,a⟩:=Om.1 a;unfold aP;rw[a,b]
   rfl
  .rw[b] at c;cases c;exact⟨rfl,rfl,rfl⟩
section
variable {Kj : List Qq} {wz w : Pv} {cb : Nat} {a : Pt} {cap mr mt mx : Nat} {cl : Ps -> Option fB} {f : Ps -> Pw} {kf : Ps -> Prop} {un co : Int} {sl : List Qz}
theorem jP(k:CM Kj wz w cb a cap mr mt mx cl f kf un co)(Y:CS Kj wz cl f kf un co sl)(a6:Kj.length<=1048576)(I:dI Kj)(hN:bN wz a Kj)(n:Ps)(a7:n.size<=1000):
  Calls prog 104 #[.c cb,.string n] w λe w'=>JS Kj sl n e/\K_ w w':=by
 have Z:=k.c0;have b1:=k.c1;have C:=k.row.lt;have J:K_ w (w.alloc (.cells #[.bool false,.string ⟨#[]⟩] 80)):=ah _ _;have⟨HC,HS⟩:=aH k Y;obtain⟨W0,D⟩:=ai (w.alloc (.cells #[.bool false,.string ⟨#[]⟩] 80));rw[<-D] at J;have a8:Hid (aB W0 w.heap.size 80 2):=by rw[D];exact aB.made w _ _
 have x:=Kz (k.kept J);have Z:=x.o.c0;have b1:=x.o.c1;have C:=x.o.row.lt;clear k Y;go_enter func104,ntmps104
 go_upto_region 1 with fail
 rw[<-D];clear D;go_wp2_with fail
 refine (sV W0 a cap Kj n a6 I (hN.kept x.o.kw)).mono ?_;rintro e b ⟨⟨b7,fd,rfl,hp,hf⟩,L⟩;have⟨HP,M⟩:=aH hp hf;have KW:=J.trans L;have N:=Kz (x.o.kept L);have O:=Kz (a8.o.kept L);clear hp hf Z b1 C;cases fd
 .go_wp2_with fail
  refine (yx b n a7).mono ?_;rintro e w2 ⟨rfl,y⟩;have l:=Kz (O.o.kept y);obtain⟨⟨_,x0⟩,f0⟩:=l.o.row.at (i:=0) A8;obtain⟨⟨_,x1⟩,f1⟩:=l.o.row.at (i:=1) A8;have xz:=l.o.lt;go_wp2_with fail
  have P:=NU w2 w.heap.size 0 [.bool true,.string (rY n)] (l.o.row.there (o:=0) (m:=2) (NQ _));refine bI [.bool true,.string (rY n)] _ (.bool true) results104 rfl P underlying80 rfl Tryz.jf rfl rfl ?_;refine⟨⟨true,rY n,true,rfl, ?_,λQ=>by cases Q⟩,bJ (g:=w.heap.size) (NQ _) [.bool true,.string (rY n)] 0 (KW.trans y)⟩;have a9:Q_ Kj n=none:=mX λj E e=>by
   have z:nameAt Kj j=n.toList:=by unfold nameAt;rw[e]
   have e2:=Place.only I HP.o E z;rw[e2] at E z;have:=M.o.2 ⟨E,z⟩;cases this
  unfold aP;rw[a9]
  rfl
 .have a0:=(M.o.1 rfl).1;have b0:Hid ((Q_ Kj n).isSome=true):=by
   have e:=qQ a0 (toList_inj.1 (M.o.1 rfl).2) (λj E e=>by
    have z:nameAt Kj j=n.toList:=by unfold nameAt;rw[e]
    have:=Place.only I HP.o A7 z;omega)
   show _=_;rw[e]
   rfl
  obtain⟨u,qa,ql,qc,p,c,d,a1,a2,a3⟩:=HS.o.Np n;have⟨b2,b3⟩:=aH a2 a3;have R:=N.o.MB (s:=n) D5;rw[a1] at R;unfold fJ at R;have b4:=N.o.c3;have C:=N.o.row.lt;obtain⟨h,q⟩:=ai (b.alloc (.cells #[.a u,.slice qa ql qc,.bool p,.bool c,.string d] 207));have y:K_ b h:=by rw[q];exact ah _ _
  have a4:Hid (∀v,K_ h v->J4 v b.heap.size 2 (.bool p)/\J4 v b.heap.size 3 (.bool c)/\J4 v b.heap.size 4 (.string d)):=λv K=>by
   have r:=Xz b #[.a u,.slice qa ql qc,.bool p,.bool c,.string d] 207;have T:b.heap.size<h.heap.size:=by rw[q];simp
   rw[<-q] at r;exact⟨(K.cell T).trans (r 2 _ rfl),(K.cell T).trans (r 3 _ rfl),(K.cell T).trans (r 4 _ rfl)⟩
  have l:=Kz (O.o.kept y);have K2:=KW.trans y;have HZ:Hid (w.heap.size<b.heap.size):=O.o.lt;have F:Hid (b.heap.size<h.heap.size):=by rw[q];show _<_;simp
  clear a1 a2 a3 a0;go_upto_region 5 with fail
  rw[<-q];clear q R b4 C;obtain⟨G,a5⟩:=ai b.heap.size;rw[<-a5] at a4 HZ F⊢;clear a5;refine Qx.region C9 (λv=>J4 v G 2 (.bool p)/\J4 v G 3 (.bool c)/\J4 v G 4 (.string d)) 5 (a4.o _ (bD h)) (λA=>?_);have t:K_ h h.drew:=bD h;generalize b5:h.drew=U at A t⊢;clear b5;have H:=Kz (l.o.kept t);refine ax 0 A ?_;obtain⟨⟨_,x0⟩,f0⟩:=H.o.row.at (i:=0) A8;obtain⟨⟨_,x1⟩,f1⟩:=H.o.row.at (i:=1) A8;have xz:=H.o.lt;have V:G≠w.heap.size:=by have:=HZ.o;omega
  refine aj 4 (λK B=>?_);go_simp
  refine B.out _ _ ?_ ?_
  .have W:But (λX=>X=w.heap.size) U (U.setCells w.heap.size 0 [.bool c,.string d]):=gP (S:=λX=>X=w.heap.size) (.inl rfl) _ 0 (But.au (K_.refl _));exact λ_=>⟨(W.cell (NR F.o t.size) V).trans A.1,(W.cell (NR F.o t.size) V).trans A.2.1,(W.cell (NR F.o t.size) V).trans A.2.2⟩
  clear B K;try simp only[upP]
  refine aj 5 (λK B=>?_);go_simp
  refine af B (λQ=>Pg rfl Q) ?_;clear B K;refine aG ?_;go_wp2_with fail
  have P:=NU U w.heap.size 0 [.bool c,.string d] (H.o.row.there (o:=0) (m:=2) (NQ _));refine bI [.bool c,.string d] _ (.bool p) results104 rfl P underlying80 rfl Tryz.jf rfl rfl ?_;exact⟨⟨c,d,p,rfl,b2.o b0.o,λ_ b6 r=>(b3.o b6 r).2⟩,bJ (g:=w.heap.size) (NQ _) [.bool c,.string d] 0 (K2.trans t)⟩
theorem nI(b:CM Kj wz w cb a cap mr mt mx cl f kf un co)(c:CS Kj wz cl f kf un co sl)(i:Kj.length<=1048576)(j:dI Kj)(k:bN wz a Kj)(n:Ps)(l:n.size<=1000):
  Calls prog 154 #[.c cb,.string n] w λe w'=>Says e (aP (Q_ Kj) (Qj sl) n=none)/\K_ w w':=by
 have⟨m,p⟩:=aH b c;clear b c;go_enter func154,ntmps154
 go_wp2_with fail
 refine (jP m.o p.o i j k n l).mono ?_;rintro e s ⟨⟨t,v,d,rfl,h,_⟩,q⟩;have r:=Kz h;clear h;go_wp2
 go_ret
 refine⟨⟨!d,rfl, ?_⟩,q.alloc _⟩;rw[r.o];cases d <;> simp
end
theorem Tryz.Nj(w:Pv):(binOp .neq 166 .nilFunc .nilFunc).run prog w= .ok (.bool false) w:=C9
theorem Tryz.NN(w:Pv)(v1 v2 v3 v4:Pw):(binOp .neq 166 (.func (.func 146) #[] #[v1,v2,v3,v4]) .nilFunc).run prog w= .ok (.bool true) w:=C9
def CMS(cb mr mt:Nat)(cl:Ps->Option fB)(b:Nat):Prop:=b=cb\/b=mr\/b=mt\/∃n t,cl n=some t/\b∈t.own
structure iW (cb mr mt:Nat) (cl cl':Ps->Option fB) (w w':Pv):Prop where
 but:But (CMS cb mr mt cl) w w'
 own:∀b,CMS cb mr mt cl' b->CMS cb mr mt cl b\/w.heap.size<=b
theorem iW.kept{cb mr mt:Nat}{cl:Ps->Option fB}{w w':Pv}(k:K_ w w'):iW cb mr mt cl cl w w':=⟨But.au k,λ_ h=>.inl h⟩
theorem iW.trans{cb mr mt:Nat}{cl c d:Ps->Option fB}{w w' e:Pv}(h:iW cb mr mt cl c w w')(k:iW cb mr mt c d w' e):iW cb mr mt cl d w e:=by
 refine⟨⟨k.but.os.trans h.but.os,k.but.tape.trans h.but.tape,k.but.output.trans h.but.output,NT h.but.size k.but.size,λb a f=>?_⟩,λb a=>?_⟩
 .refine (k.but.block b (NR a h.but.size) (λi=>?_)).trans (h.but.block b a f);rcases h.own b i with g | g
  .exact f g
  .omega
 .rcases k.own b a with g|g
  .exact h.own b g
  .exact .inr (NT h.but.size g)
section
variable {Kj : List Qq} {wz w : Pv} {cb : Nat} {a : Pt} {cap mr mt mx : Nat} {cl : Ps -> Option fB} {f : Ps -> Pw} {kf : Ps -> Prop} {un co : Int}
theorem rE(l:CM Kj wz w cb a cap mr mt mx cl f kf un co)(a9:Kj.length<=1048576)(G:dI Kj)(X:bN wz a Kj)(n:Ps)(c3:n.size<=1000)(b0:mx<=1000000):
  Calls prog 47 #[.c cb,.string n] w λe w'=>e= .returned (.tuple #[])/\∃cl',CM Kj wz w' cb a cap mr mt (mx+1) cl' f kf un co/\iW cb mr mt cl cl' w w'/\
   ((cl'=cl/\(Q_ Kj n=none\/(cl n).isSome=true))\/((Q_ Kj n).isSome=true/\cl n=none/\∃t,t.r=Qz.fresh n/\cl'=λm=>if m=n then some t else cl m)):=by
 have b1:=l.c0;have b3:=l.c1;have q:=l.row.lt;have Y:=Kz l;clear l;go_enter func47,ntmps47
 go_wp2_with fail
 refine (sV _ a cap Kj n a9 G (X.kept Y.o.kw)).mono ?_;rintro e h ⟨⟨p,fd,rfl,Z,hf⟩,x⟩;have⟨HP,H⟩:=aH Z hf;have b:=Kz (Y.o.kept x);clear Z hf b1 b3 q;cases fd
 .go_wp2_with fail
  refine bodyPost_ret (results_none rfl _ _ _) rfl ?_;refine⟨rfl,cl,b.o.more A7,iW.kept x,.inl ⟨rfl,.inl (mX λI C e=>?_)⟩⟩;have z:nameAt Kj I=n.toList:=by unfold nameAt;rw[e]
  have e2:=Place.only G HP.o C z;rw[e2] at C z;have:=H.o.2 ⟨C,z⟩;cases this
 have a0:=(H.o.1 rfl).1;have J:Hid (Q_ Kj n=some ⟨(Kj.getD p Qq.zero).cost,(Kj.getD p Qq.zero).steps⟩):=qQ a0 (toList_inj.1 (H.o.1 rfl).2) (λI C e=>by
  have z:nameAt Kj I=n.toList:=by unfold nameAt;rw[e]
  have:=Place.only G HP.o A7 z;omega)
 have L:=b.o.Mw (s:=n) D5;have b2:=b.o.c2;have q:=b.o.row.lt;cases i:cl n with
 | some t=>
  have A:fnC cl n= .func (.func 146) #[] #[lM t.vb,lM t.ab,lM t.tb,lM t.xb]:=by unfold fnC;rw[i];rfl
  rw[A] at L;have M:=Kz i;have a1:=Tryz.NN h (lM t.vb) (lM t.ab) (lM t.tb) (lM t.xb);clear i A;go_wp2_with fail
  refine bodyPost_ret (results_none rfl _ _ _) rfl ?_;exact⟨rfl,cl,b.o.more A7,iW.kept x,.inl ⟨rfl,.inr (by rw[M.o];rfl)⟩⟩
 | none=>
  have A:fnC cl n= .nilFunc:=by unfold fnC;rw[i]
  rw[A] at L;have M:=Kz i;have a1:=Tryz.Nj h;clear i A;obtain⟨d,o,cs,rfl,N,D,O,P,rfl,Q⟩:=X p a0;obtain⟨y,E⟩:=ai (Kj.getD p Qq.zero);rw[<-E] at D Q J;have c:d<h.heap.size:=NR N b.o.kw.size;have c1:J4 h d (o+p*3+1) (.a y.cost):=(b.o.kw.cell N).trans (D 1 _ rfl);have c2:J4 h d (o+p*3+2) (.slice O y.steps.length P):=(b.o.kw.cell N).trans (D 2 _ rfl);have m0:=b.o.c0;have a2:Hid (∀v,K_ h v->J4 v cb 2 (.map (some mr))/\J4 v cb 0 (.slice (some ⟨d,o,none⟩) Kj.length cap)/\J4 v d (o+p*3+1) (.a y.cost)/\J4 v d (o+p*3+2) (.slice O y.steps.length P)):=λv K=>⟨(K.cell q).trans b2,(K.cell q).trans m0,(K.cell c).trans c1,(K.cell c).trans c2⟩
  have HA:=Kz Q;have c4:(p:Int)<(Kj.length:Int):=A7;clear D Q E;go_upto_region 2 with fail
  clear L a1 b2 q c1 c2 m0 c;refine bn 15 a2.o λwd R j=>?_
  refine ax 0 j ?_;refine ax 4 j ?_;refine ax 8 j ?_;refine ae 12 j ?_;refine ae 13 j ?_;refine aF 14 (λK B=>?_);go_simp
  go_at_call 101
  refine (GU wz wd (b.o.kw.trans R) n y.cost y.steps O P).mono ?_;rintro e w3 ⟨t,rfl,a3,S,a4,T,a5,k3,c5,U⟩;have V:=R.trans k3;have b4:=Kz (b.o.kept V);have c6:=R.size;have a6:∀m u,m≠n->cl m=some u->∀W∈t.own,W∉u.own:=λm u _ k W F E=>by
   have h1:=((b.o.clo m u k).2.2.2.bH E).2.2;have h2:=U W F;omega
  obtain⟨w4,c7,a7,a8⟩:=b4.o.sH (s:=n) (t:=t) D5 (by rw[S];rfl) (by rw[a4,T];exact J.o) (by rw[a5,T];exact HA.o) a3 a6 b0;have⟨b5,b6,b7,b8⟩:=jW a7 a8 U S;refine af B (λ_=>a2.o _ V) ?_;clear B K j a7 a8 U S a4 T a5 a3 a6;refine aj 15 (λK B=>?_);go_simp
  refine af B (λb9=>Pg rfl b9) ?_;clear B K;refine aG ?_;go_wp2_with fail
  refine bodyPost_end (results_none rfl _ _ _) rfl ?_;refine⟨rfl,_,b5.o, ?_,.inr ⟨by rw[J.o];rfl,M.o,t,b8.o,rfl⟩⟩;refine⟨(But.au (x.trans V)).trans (b6.o.mono (λd _ e=>.inr (.inl e))),λd c=>?_⟩;rcases c with c | c | c | ⟨m,u,k,F⟩
  .exact .inl (.inl c)
  .exact .inl (.inr (.inl c))
  .exact .inl (.inr (.inr (.inl c)))
  .simp only at k
   split at k
   .cases k;have h2:=b7.o d F;have h3:=x.size;exact .inr A7
   .exact .inl (.inr (.inr (.inr ⟨m,u,k,F⟩)))
theorem Gy{u c:Int}(a:0<=u)(b:u<=1)(h2:0<=c)(d:c<=20):0<=u*c/\u*c<=20:=by
 refine⟨Int.mul_nonneg a h2, ?_⟩;have:u*c<=1*c:=Int.mul_le_mul_of_nonneg_right b h2;omega
theorem xY(l:CM Kj wz w cb a cap mr mt mx cl f kf un co)(Z:Kj.length<=1048576)(y:dI Kj)(E:bN wz a Kj)(n:Ps)(A:eY)(F:Q_ Kj n=some A)(u:Int)(a0:0<=u)(a1:u<=1)(G:0<=A.cost)(H:A.cost<=20)(a8:0<=un/\un<=100000)(a9:0<=co/\co<=100000):
  Calls prog 155 #[.c cb,.string n,.a u] w λe w'=>e= .returned (.tuple #[])/\CM Kj wz w' cb a cap mr mt mx cl f kf (un+u) (co+u*A.cost)/\iW cb mr mt cl cl w w':=by
 have b0:=l.c0;have b1:=l.c1;have z:=l.row.lt;have⟨I,J⟩:=aH l F;clear l F;go_enter func155,ntmps155
 go_wp2_with fail
 refine (sV _ a cap Kj n Z y (E.kept I.o.kw)).mono ?_;rintro e r ⟨⟨p,fd,rfl,L,M⟩,N⟩;have⟨O,B⟩:=aH L M;have b:=Kz (I.o.kept N);clear L M b0 b1 z;cases fd
 .exfalso
  have P:Q_ Kj n=none:=mX λj s e=>by
   have m:nameAt Kj j=n.toList:=by unfold nameAt;rw[e]
   have e2:=Place.only y O.o s m;rw[e2] at s m;have:=B.o.2 ⟨s,m⟩;cases this
  rw[J.o] at P;cases P
 have Q:=(B.o.1 rfl).1;have a2:Hid (Q_ Kj n=some ⟨(Kj.getD p Qq.zero).cost,(Kj.getD p Qq.zero).steps⟩):=qQ Q (toList_inj.1 (B.o.1 rfl).2) (λj s e=>by
  have m:nameAt Kj j=n.toList:=by unfold nameAt;rw[e]
  have:=Place.only y O.o A7 m;omega)
 obtain⟨c,o,cs,rfl,R,S,aa,ca,rfl,hA⟩:=E p Q;obtain⟨d,t⟩:=ai A.cost;have T:J4 r c (o+p*3+1) (.a d):=by
  have e:=a2.o;rw[J.o] at e;rw[t,OQ e];exact (b.o.kw.cell R).trans (S 1 _ rfl)
 have a3:=Kz t;rw[<-t] at G H;have U:c<r.heap.size:=NR R b.o.kw.size;have b4:=b.o.c4;have z:=b.o.row.lt;obtain⟨⟨_,f1⟩,f4⟩:=b.o.row.row.at (i:=4) A7;obtain⟨x,k⟩:=ai (r.setCell ⟨cb,4,none⟩ (.a (un+u)));have q:Hid (CM Kj wz x (cb) (some ⟨c,o,none⟩) cap mr mt mx cl f kf (un+u) co):=by rw[k];exact b.o.setU (un+u)
 have V:c<x.heap.size:=by rw[k,size_setCell];exact U
 have W:c≠cb:=by have:=b.o.low;omega
 have a4:Hid (∀v,K_ x v->J4 v cb 5 (.a co)/\J4 v cb 0 (.slice (some ⟨c,o,none⟩) Kj.length cap)/\J4 v c (o+p*3+1) (.a d)):=λv K=>⟨(K.cell q.o.row.lt).trans q.o.c5,(K.cell q.o.row.lt).trans q.o.c0,(K.cell V).trans (by rw[k,Zk W];exact T)⟩
 have b2:(p:Int)<(Kj.length:Int):=A7;have b3:=Gy a0 a1 G H;clear S hA t T U W V f1;go_upto_region 2 with fail
 rw[<-k];have a5:=Kz k;clear k b4 z f4;refine bn 19 a4.o λwd X h=>?_
 refine ax 0 h ?_;refine ax 4 h ?_;refine ax 8 h ?_;refine ax 12 h ?_;refine ae 16 h ?_;refine ae 17 h ?_;refine ae 18 h ?_;have C:=Kz (q.o.kept X);obtain⟨⟨_,x5⟩,f5⟩:=C.o.row.row.at (i:=5) A7;have zd:=C.o.row.lt;refine aj 19 (λK Y=>?_);go_simp
 refine af Y (λD=>Pg rfl D) ?_;clear Y K;refine aG ?_;go_wp2_with fail
 refine bodyPost_end (results_none rfl _ _ _) rfl ?_;have a6:IntKind.i64.wrap (u*d)=u*d:=gZ A7 A7;have a7:IntKind.i64.wrap (co+u*d)=co+u*d:=gZ A7 A7;rw[a6,a7,<-a3.o];refine⟨rfl,C.o.setC (co+u*d), ?_⟩;have q1:But (CMS cb mr mt cl) w r:=But.au N;have q2:But (CMS cb mr mt cl) w x:=by rw[a5.o];exact q1.set (p:=⟨cb,4,none⟩) (.inl rfl) _
 exact⟨(q2.trans' X).set (p:=⟨cb,5,none⟩) (.inl rfl) _,λ_ D=>.inl D⟩
end
def nE(w:Pv)(g:Nat):Prop:=∀o s,w.cell? ⟨g,o,none⟩≠some (.string s)
variable {g : Nat} {w : Pv}
theorem nE.kept{w':Pv}(h:nE w g)(b:g<w.heap.size)(k:K_ w w'):nE w' g:=λo s e=>h o s ((k.cell b).symm.trans e)
variable {a : Pt}
theorem DT{o:Nat}{v:Pw}{l:List Ps}(h:Strs w a l)(d:nE w g):Strs (w.setCell ⟨g,o,none⟩ v) a l:=by
 intro i e;obtain⟨b,p,rfl,f,c⟩:=h i e;refine⟨b,p,rfl,by rw[size_setCell];exact f, ?_⟩;rw[Ol _ _ _ _ (λj=>?_)]
 .exact c
 .have k:g=b:=congrArg Addr.block j;subst k;exact d _ _ c
theorem DD{o:Nat}{v:Pw}{l:List fF}(h:oO w a l)(d:nE w g):oO (w.setCell ⟨g,o,none⟩ v) a l:=by
 intro i e;obtain⟨b,p,rfl,f,c⟩:=h i e;refine⟨b,p,rfl,by rw[size_setCell];exact f,λj u k=>?_⟩;rw[Ol _ _ _ _ (λm=>?_)]
 .exact c j u k
 .have n:g=b:=congrArg Addr.block m;subst n;exact d _ _ (c 0 _ rfl)
theorem BL{vs:List Pw}{l:List Ps}(h:Strs w a l)(d:nE w g):Strs (w.setCells g 0 vs) a l:=by
 intro i e;obtain⟨b,p,rfl,f,c⟩:=h i e;refine⟨b,p,rfl,by rw[size_setCells];exact f, ?_⟩;rw[World.cell?_setCells_out g vs 0 w _ (λj _=>?_)]
 .exact c
 .have k:b=g:=j;subst k;exact (d _ _ c).elim
theorem tC{vs:List Pw}{l:List fF}(h:oO w a l)(d:nE w g):oO (w.setCells g 0 vs) a l:=by
 intro i e;obtain⟨b,p,rfl,f,c⟩:=h i e;refine⟨b,p,rfl,by rw[size_setCells];exact f,λj u k=>?_⟩;rw[World.cell?_setCells_out g vs 0 w _ (λm _=>?_)]
 .exact c j u k
 .have n:b=g:=m;subst n;exact (d _ _ (c 0 _ rfl)).elim
def pW.cells(o:pW)(a f:Pt)(c e0:Nat):List Pw:=[.a o.code,.slice a o.res.length c,.slice f o.chain.length e0,.a o.dS,.a o.cost]
theorem Ib{k m n:Int}{f:Pt}{c e0 rl cl:Nat}{t:TypeId}:nE (w.alloc (.cells #[.a k,.slice a rl c,.slice f cl e0,.a m,.a n] t)) w.heap.size:=λo s e=>by
 have d:=Xz w #[.a k,.slice a rl c,.slice f cl e0,.a m,.a n] t
 match o,e with
 | 0,e=>have:=d 0 _ rfl;rw[e] at this;cases this
 | 1,e=>have:=d 1 _ rfl;rw[e] at this;cases this
 | 2,e=>have:=d 2 _ rfl;rw[e] at this;cases this
 | 3,e=>have:=d 3 _ rfl;rw[e] at this;cases this
 | 4,e=>have:=d 4 _ rfl;rw[e] at this;cases this
 | o+5,e=>
  have h:=World.alloc_heap_new w (.cells #[.a k,.slice a rl c,.slice f cl e0,.a m,.a n] t);unfold World.cell? at e;simp only[h] at e;simp at e
theorem IE{b:Nat}{t:TypeId}(a:aB w b t 5)(h:∀o,o<5->∀s,w.cell? ⟨b,o,none⟩≠some (.string s)):nE w b:=λo s e=>by
 by_cases c:o<5
 .exact h o c s e
 .obtain⟨f,d,i⟩:=a;unfold World.cell? at e;simp only[d] at e;simp only[Option.isSome_none,Bool.false_eq_true,if_false] at e;have j:=(OB.1 e).1;omega
theorem Tryz.dH :(prog.info? 43).map (·.size)=some 5:=C9
theorem But.after{S c:Nat->Prop}{w' d:Pv}(h:But S w w')(k:But c w' d)(f:∀b,b<w.heap.size->¬S b->¬c b):But S w d:=
 ⟨k.os.trans h.os,k.tape.trans h.tape,k.output.trans h.output,NT h.size k.size,λb a e=>(k.block b (NR a h.size) (f b a e)).trans (h.block b a e)⟩
theorem miss{b o a:Nat}{x v:Pw}(h:w.cell? ⟨b,o,none⟩=some x)(d:o≠a):(w.setCell ⟨b,a,none⟩ v).cell? ⟨b,o,none⟩=some x:=by rw[Xx A7];exact h
structure iH (W2:Pv) (ob:Nat) (w:Pv) (code:Int) (rv:Pw) (dS cost:Int):Prop where
 but:But (λb=>b=ob) W2 w
 row:aB w ob 43 5
 c0:w.cell? ⟨ob,0,none⟩=some (.a code)
 c1:w.cell? ⟨ob,1,none⟩=some rv
 c2:w.cell? ⟨ob,2,none⟩=some J3
 c3:w.cell? ⟨ob,3,none⟩=some (.a dS)
 c4:w.cell? ⟨ob,4,none⟩=some (.a cost)
section
variable {W2 w w' : Pv} {ob : Nat} {code dS cost : Int} {rv : Pw}
theorem iH.kept(h:iH W2 ob w code rv dS cost)(k:K_ w w'):iH W2 ob w' code rv dS cost:=
 ⟨h.but.trans (But.au k),h.row.kept k,(k.cell h.row.lt).trans h.c0,(k.cell h.row.lt).trans h.c1,(k.cell h.row.lt).trans h.c2,(k.cell h.row.lt).trans h.c3,(k.cell h.row.lt).trans h.c4⟩
theorem iH.alike(h:iH W2 ob w code rv dS cost){S:Nat->Prop}(k:But S w w')(c:∀b,S b->W2.heap.size<=b)(d:ob<W2.heap.size):iH W2 ob w' code rv dS cost:=
 have a:¬S ob:=λe=>by have:=c _ e;omega
 ⟨h.but.after k (λb f _ e=>by have:=c _ e;omega),k.row h.row a,(k.cell h.row.lt a).trans h.c0,(k.cell h.row.lt a).trans h.c1,(k.cell h.row.lt a).trans h.c2,(k.cell h.row.lt a).trans h.c3,(k.cell h.row.lt a).trans h.c4⟩
theorem iH.set0(h:iH W2 ob w code rv dS cost)(x:Int):iH W2 ob (w.setCell ⟨ob,0,none⟩ (.a x)) x rv dS cost:=
 ⟨h.but.set rfl _,h.row.set _,bu h.row.row A7 _,miss h.c1 A8,miss h.c2 A8,miss h.c3 A8,miss h.c4 A8⟩
theorem iH.set1(h:iH W2 ob w code rv dS cost)(x:Pw):iH W2 ob (w.setCell ⟨ob,1,none⟩ x) code x dS cost:=
 ⟨h.but.set rfl _,h.row.set _,miss h.c0 A8,bu h.row.row A7 _,miss h.c2 A8,miss h.c3 A8,miss h.c4 A8⟩
theorem iH.set3(h:iH W2 ob w code rv dS cost)(x:Int):iH W2 ob (w.setCell ⟨ob,3,none⟩ (.a x)) code rv x cost:=
 ⟨h.but.set rfl _,h.row.set _,miss h.c0 A8,miss h.c1 A8,miss h.c2 A8,bu h.row.row A7 _,miss h.c4 A8⟩
theorem iH.set4(h:iH W2 ob w code rv dS cost)(x:Int):iH W2 ob (w.setCell ⟨ob,4,none⟩ (.a x)) code rv dS x:=
 ⟨h.but.set rfl _,h.row.set _,miss h.c0 A8,miss h.c1 A8,miss h.c2 A8,miss h.c3 A8,bu h.row.row A7 _⟩
theorem iH.no{c:Pt}{rn rc:Nat}(h:iH W2 ob w code (.slice c rn rc) dS cost):nE w ob:=IE h.row λo d s e=>by
 match o,d,e with
 | 0,_,e=>have:=h.c0;rw[e] at this;cases this
 | 1,_,e=>have:=h.c1;rw[e] at this;cases this
 | 2,_,e=>have:=h.c2;rw[e] at this;cases this
 | 3,_,e=>have:=h.c3;rw[e] at this;cases this
 | 4,_,e=>have:=h.c4;rw[e] at this;cases this
end
attribute [local go_sem] Oper.semAt_some
section
variable {G : bV} {Kj : List Qq} {wz w w' : Pv} {bb : Nat} {a : Pt} {cap : Nat} {rd : Pt} {rn rc : Nat} {mb mx : Nat} {ts : List Zx} {d : Pt} {dc : Nat} {f : Ps -> Pw} {ws : Ps -> List Nat}
end
