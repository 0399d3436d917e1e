import Derived.Test.YtjbipapbckajnaaGreatDoorKBAppr0
import Derived.Test.YtjbipapbckajnaaGreatDoorKFImpl2
import Derived.Test.YtjbipapbckajnaaGreatDoorKXAll0
import Derived.Test.YtjbipapbckajnaaGreatDoorKIter
set_option maxRecDepth 100000
set_option maxHeartbeats 25600000
namespace Go.Proofs.YtjbipapbckajnaaGreatDoor
open Go.RowKit Go.Shelf Go.Proofs.Tryz
attribute [local go_sem] Oper.semAt_some
section
variable {Kq : List Qz} {wz w w' : NI} {bb : Nat} {a : NH} {cap : Nat} {rd : NH} {rn rc : Nat} {mb mx : Nat} {ts : List Zk} {d : NH} {dc : Nat} {f : NG -> NJ} {ws : NG -> List Nat}
def LJ(Kx:Nat->Prop)(Kq:List Qz)(wz w:NI)(bb:Nat)(a:NH)(cap:Nat)(rd:NH)(rn rc:Nat)(mb:Nat)(Gl σ0:Env)(ts0:List Zk)(e:Ending)(w':NI):Prop:=
 ∃(mx:Nat) (ts:List Zk) (d:NH) (dc:Nat) (f:NG->NJ) (ws:NG->List Nat) (b:Bool),e= .returned (.bool b)/\BM (bQ.no wz) Kq wz w' bb a cap rd rn rc mb mx ts d dc f ws/\BS Kq ts ws/\mx+6*tK Kq ts<=9000/\(∃k,a_ (Behind (W:=Kk Kq) dI Gl) (doX (Kk Kq)) σ0 (Qq (Qj ts)) k)/\(b=false->AtEnd (Behind (W:=Kk Kq) dI Gl) (Qq (Qj ts)))/\(b=true->tK Kq ts<tK Kq ts0)/\∀k,Kx k->w'.heap[k]? =w.heap[k]?/\vS w' bb mb ts f k
theorem AP(hB:BM (bQ.no wz) Kq wz w bb a cap rd rn rc mb mx ts d dc f ws)(hS:BS Kq ts ws)(f0:bg (Kk Kq))(f1:∀y∈Kq,y.Fits)(c5:Kq.length<=60)(f2:fP Kq)(hN:bT wz a Kq)(f3:gD wz)
  (q:NH) (x:Nat) (c:List Q_) (f4:c.length<=1048576) (hA:df c) (hR:cB wz q c) (σ0:Env) (f5:∃k,a_ (Behind (W:=Kk Kq) dI (Qq c)) (doX (Kk Kq)) σ0 (Qq (Qj ts)) k) (f6:mx+6*tK Kq ts<=9000) (Kx:Nat->Prop) (b0:∀k,Kx k->vS w bb mb ts f k):
  Calls prog 76 #[.c bb,.agg #[.slice q c.length x,.func (.func 74) #[] #[]]] w λe w'=>LJ Kx Kq wz w bb a cap rd rn rc mb (Qq c) σ0 ts e w':=by
 have⟨F,HS⟩:=aH hB hS;clear hB hS;refine (callsIn_wide (n:=9)).1 ?_;refine callsIn_of_wp_marks func76 rfl trivial ?_ rfl;simp only[ntmps76,List.size_toArray,MX,List.length_nil,Nat.reduceAdd,Nat.reduceSub,Array.replicate_succ,Array.replicate_zero,List.push_toArray,List.append_toArray,List.nil_append,List.cons_append]
 gi_wp2
 obtain⟨h,M⟩:∃h,((w.alloc (.cells #[.c bb] 55)).alloc (.cells #[.slice q c.length x,.func (.func 74) #[] #[]] 141)).alloc (.cells #[.bool false] 4)=h:=⟨_,rfl⟩;rw[M];have K0:K_ w h:=by rw[<-M];exact ((ah _ _).alloc _).alloc _
 have z0:h.heap.size=w.heap.size+1+1+1:=by rw[<-M];simp
 have q0:=(Ce (w:=w) (v:= .c bb) (t:=55) (w1:=h) (by rw[<-M];exact (ah _ _).alloc _)).1;have c6:=Eh (w:=w.alloc (.cells #[.c bb] 55)) (v0:= .slice q c.length x) (v1:= .func (.func 74) #[] #[]) (t:=141) (w1:=h) (by rw[<-M];exact ah _ _);have c7:=Ce (w:=(w.alloc (.cells #[.c bb] 55)).alloc (.cells #[.slice q c.length x,.func (.func 74) #[] #[]] 141)) (v:= .bool false) (t:=4) (w1:=h) (by rw[<-M];exact K_.refl _);simp only[MS] at c6 c7;obtain⟨q1,q2⟩:=c6;obtain⟨q3,q4,q5⟩:=c7;have Y:=F.o.kept K0;have i2:=F.o.len c5;have i3:=F.o.kw.size;obtain⟨z,Z⟩:∃z:Nat->Prop,z=λk=>k=w.heap.size\/k=w.heap.size+1\/d=some ⟨k,0,none⟩\/Kx k:=⟨_,rfl⟩
 obtain⟨Kc,b1⟩:∃Kc:Nat->Prop,Kc=λk=>k=w.heap.size+1+1:=⟨_,rfl⟩
 have f7:z w.heap.size:=by rw[Z];exact .inl rfl
 have c8:z (w.heap.size+1):=by rw[Z];exact .inr (.inl rfl)
 have c9:∀g,d=some ⟨g,0,none⟩->z g:=λg e=>by rw[Z];exact .inr (.inr (.inl e))
 have d0:∀k,Kx k->z k:=λk e=>by rw[Z];exact .inr (.inr (.inr e))
 have a5:Kc (w.heap.size+1+1):=by rw[b1]
 have f8:¬z (w.heap.size+1+1):=by
  rw[Z];rintro (e|e|e|e)
  .omega
  .omega
  .have:=(F.o.apart e).1;omega
  .have:=(b0 _ e).1;omega
 have d1:Hid (InB h.heap.size z Kc (Jc ts) h Kq wz h bb a cap rd rn rc mb mx ts d dc f ws):=InB.start Y (λk A=>by
   have far:w.heap.size<=k->k<h.heap.size->k<h.heap.size/\k≠bb/\k≠mb/\(∀t∈ts,k≠t.tb/\k∉t.own)/\∀s,(f s).ownBlock≠some k:=λl m=>⟨m,F.o.far l⟩
   rw[Z,b1] at A;rcases A with (e|e|e|e) | e
   .exact far E5 E5
   .exact far E5 E5
   .exact Y.apart e
   .have l:=b0 k e;exact⟨by have:=l.1;omega,l.2⟩
   .exact far E5 E5)
  (λk A=>by rw[b1] at A;rw[A];exact⟨E5,_,q5,E8⟩)
  (λp N=>by obtain⟨t,O,rfl⟩:=MH.1 N;exact⟨t,O,rfl,rfl⟩)
 have b2:=Y.items;have i4:=F.o.row.lt;have d2:=Y.c3;have f9:=Kz Y;clear Y;refine mU (lM bb d ts.length dc (iX ts) E5) rfl (enters_of func33 F4 rfl) (vg E5) d2 (λ_=>rfl)
  (ApI h.heap.size z Kc h Kq wz bb a cap rd rn rc mb ts (Qq c) σ0 (w.heap.size+1+1))
  (λ_ _=>False) (λa0=>ApI.calm a5) (λ_=>nD _) ⟨mx,ts,d,dc,f,ws,false,d1.o,HS.o,nU.start f5,f6,q3,q4⟩
  (λa0=>{tmps:= #[.c bb,.agg #[.slice q c.length x,.func (.func 74) #[] #[]],.c w.heap.size,.c (w.heap.size+1),.bool false,.c (w.heap.size+1+1),.c (iX ts a0),undef,undef,.c bb,.func (.func 33) #[.c bb] #[],.c (iX ts a0),undef,undef,undef,undef,undef,undef,undef,undef,undef,undef,undef,undef,undef,undef,undef,undef,undef,undef,undef,undef,undef,undef,undef,undef],defers:=[]})
  ?assign (λa0=>pE (λg e=>by have:=(F.o.apart e).1;omega)) ?step ?done ?stop
 case assign=>
  intro a6 a0 W i5 hK
  gi_wp2
  exact hK
 case stop=>
  intro g0 i6 W _ P _;exact P.elim
 case done=>
  rintro g0 W hD ⟨B,n,Q,R,S,T,G,i,r,H,I,a1,g6⟩ d3;have J:=Kz (i.calm (.deferred none) hD d3 rfl);have⟨a2,U⟩:=aH r H;clear i r H
  gi_wp2
  refine⟨E9,.inl ⟨_,_,rfl,run_takeDeferred d3, ?_⟩⟩;refine⟨_,results_tmp rfl _ _ _,B,n,Q,R,S,T,G,rfl,J.o.bm.no,a2.o,I,U.o.led,λe=>?_,λe=>?_,λk A=>⟨(J.o.same k (d0 k A)).trans (K0.block k (b0 k A).1),J.o.bm.oth.apart (.inl (d0 k A))⟩⟩
  .subst e;have V:=U.o;have g1:ts.length= (DN ts).length:=by simp[DN]
   rw[g1] at V;refine V.JA (λi7 b3 K=>?_);obtain⟨g2,g3⟩:=aY K;obtain⟨t,O,rfl⟩:=MH.1 g2;exact MH.2 ⟨t,O,g3⟩
  .exact U.o.yes e
 case step=>
  rintro a0 W hi ⟨B,n,Q,R,S,T,G,i,r,H,I,a1,g6⟩;rcases i.sees r b2 c9 hi with⟨hv,K⟩|⟨hn,K⟩;rotate_left
  .exact .inr ⟨hn,B,n,Q,R,S,T,G,i,r,H.skip (λP=>K P.1),I,a1,g6⟩
  refine .inl ⟨hv, ?_⟩;clear K hv g6 a1 I H r i G T S R Q n B;clear W;rintro a6 W hv ⟨B,n,Q,R,S,T,G,i,r,H,I,a1,g6⟩ hz;rcases i.sees r b2 c9 hi with⟨_,K⟩|⟨hn,_⟩;rotate_left
  .exact (Hw hv hn).elim
  obtain⟨j,t,hj,d4,e2⟩:=i.fu hi;have O:t∈n:=Mv hj;have hT:=i.bm.fu t O;have g4:=hT.row.lt;have b4:Qq (Qj n) t.r.name=some t.r:=bJ i.bm.asc (Nf O);have d5:aT (Kk Kq) (Qq (Qj n)) t.r:=by
   obtain⟨b3,l,m⟩:=K;rw[<-e2,b4] at l;cases l;exact m
  have t0:W.cell? ⟨t.tb,0,none⟩=some (.string t.r.name):=hT.rng 0 _ rfl;have t5:W.cell? ⟨t.tb,5,none⟩=some (.a t.r.Zq):=hT.rng 5 _ rfl;rw[<-d4];have p0:W.cell? ⟨w.heap.size,0,none⟩=some (.c bb):=(Mt (w:=h) (i.same _ f7)).trans q0;have p1:W.cell? ⟨w.heap.size+1,0,none⟩=some (.slice q c.length x):=(Mt (w:=h) (i.same _ c8)).trans q1;have p2:W.cell? ⟨w.heap.size+1,1,none⟩=some (.func (.func 74) #[] #[]):=(Mt (w:=h) (i.same _ c8)).trans q2;have⟨J,a2,U,HJ,d6⟩:=iZ i r H hj d5;have⟨a7,d7⟩:=aH b4 e2;have d8:=hR.kept i.bm.kw;clear i r H hj d5 b4 e2 hT O K hv q0 q1 q2 q3 q4 q5 b2 d1 F HS f9 d2 M d4;have hd:1<=7:=E5;have i8:prog.follows .mixedOrders=true:=F4
  gi_wp2
  rename_i Q1 K1 hK1
  have d9:∀(w2:NI) (p:Nat) (C:Bool),K_ W w2->p<=c.length->(if C then p<c.length/\Qq c t.r.name=some (c.getD p Q_.zero) else Qq c t.r.name=none)->K1 {tmps:= #[.c bb,.agg #[.slice q c.length x,.func (.func 74) #[] #[]],.c w.heap.size,.c (w.heap.size+1),.bool false,.c (w.heap.size+1+1),.c t.tb,.a (p:Int),.bool C,.c bb,.func (.func 33) #[.c bb] #[],.c t.tb,.tuple #[.a (p:Int),.bool C],.agg #[.slice q c.length x,.func (.func 74) #[] #[]],.c t.tb,.c t.tb,.c t.tb,.c t.tb,.string t.r.name,.tuple #[.a (p:Int),.bool C],.a (p:Int),.bool C,undef,undef,undef,undef,undef,undef,undef,undef,undef,undef,undef,undef,undef,undef],defers:=[]} w2:=by
   intro w2 p C D N X;apply hK1;have y1:w.heap.size<W.heap.size:=E5;have y2:w.heap.size+1<W.heap.size:=E5;have y3:w.heap.size+1+1<W.heap.size:=E5;have r0:=(D.cell (o:=0) y1).trans p0;have r1:=(D.cell (o:=0) y2).trans p1;have r2:=(D.cell (o:=1) y2).trans p2;have r5:=(D.cell (o:=5) g4).trans t5;have s2:=D.size;have g5:t.tb<w2.heap.size:=E5;have⟨a3,HP,b5,b6,Hz⟩:=iZ D N a1 g6 z0;clear p0 p1 p2 t0 t5 D N a1 g6 hK1 z0;cases C with
   | false=>
    have b7:=Kz X;clear X
    gi_wp2
    refine⟨trivial, ?_⟩
    gi_wp2
    refine⟨lZ a3.o _,B,n,Q,R,S,T,G,J.o.kept a3.o,a2.o,U.o.skip (λP=>?_),I,(a3.o.cell y3).trans b5.o,(a3.o.rules.2 _ _ y3).trans b6.o⟩;obtain⟨_,b3,g,_,m,_⟩:=P;rw[<-d7.o] at m;have V:=b7.o;simp only[Bool.false_eq_true,if_false] at V;rw[V] at m;cases m
   | true=>
    simp only[if_true] at X;obtain⟨g7,e0⟩:=X;obtain⟨b,o,xa,xc,g8,i9,L,j0,_⟩:=(d8.kept a3.o) p g7;subst g8;generalize c.getD p Q_.zero=e1 at *;have e3:=Kz e0;have e4:=L 0 _ rfl;have c1:=L 1 _ rfl;have c2:=L 2 _ rfl;have c3:=L 3 _ rfl;have c4:=L 4 _ rfl;have g9:=L 5 _ rfl;have h0:=L 6 _ rfl;simp only[M_] at e4;clear L e0
    gi_wp2_with fail
    refine⟨trivial,(CallsIn.inRound a6 (callsIn_wide.2 (Eo w2 t.tb t.r e1 xa xc g5 r5))).mono ?_⟩;rintro e w3 ⟨b8,k3⟩;have E:=Kz (a3.o.trans k3);have v0:=(k3.cell (o:=0) E5).trans r0;clear e4 c1 c2 c3 c4 g9 h0 r0 r1 r2 r5;rcases b8.cases with⟨rfl,a4⟩|⟨rfl,a4⟩
    .have a8:Hid (Behind (W:=Kk Kq) dI (Qq c) (Qq (Qj n)) t.r.name):=⟨⟨t.r,a7.o,d6.o⟩,t.r,e1,a7.o,e3.o,a4⟩;clear a4 b8
     gi_wp2_with fail
     refine⟨trivial,(CallsIn.inRound a6 (callsIn_wide.2 (ug (J.o.kept E.o).told a2.o HJ.o d6.o f0 f1 c5 f2 hN E5 f3))).mono ?_⟩;rintro e w4 ⟨rfl,e5,h1,h2,h3,h4,e6,e7,b9⟩;obtain⟨e8,e9,a9⟩:=(J.o.kept E.o).did e6;have hw:=a2.o.good.wf;have h5:=(mF hw a8.o.1 (Kq.map (·.name))).2 (lK (hw _ _ a7.o).web);have h6:B+6+6*tK Kq e5<=9000:=by
      unfold tK at I⊢;rw[b9];omega
     have c0:=U.o.did hw a8.o;rw[<-b9] at c0;have u0:w4.cell? ⟨w.heap.size+1+1,0,none⟩=some (.bool G):=(Mt (w:=w3) (a9 _ a5)).trans ((E.o.cell y3).trans b5.o);have u1:w4.frozen? ⟨w.heap.size+1+1,0,none⟩=false:=(World.frozen?_of_block (w:=w3) (a9 _ a5)).trans ((E.o.rules.2 _ _ y3).trans b6.o);have⟨h7,h8,h9,i0,j1⟩:=iZ e8 e7 c0 e9 a9;clear e6 b9 e8 e7 c0 e9 a9 h5 v0 k3
     gi_wp2
     refine⟨((lZ E.o _).trans i0.o).trans ((KeepsOthers.setCell _ _ _).from _),B+6,e5,h1,h2,h3,h4,true,h7.o.store (p:=⟨w.heap.size+1+1,0,none⟩) a5 f8 _,h8.o,h9.o,h6,Nl _ _ _ u0, ?_⟩;rw[World.frozen?_setCell];exact u1
    .have a8:=Kz a4;clear a4 b8 k3
     gi_wp2
     refine⟨lZ E.o _,B,n,Q,R,S,T,G,J.o.kept E.o,a2.o,U.o.skip (λP=>?_),I,(E.o.cell y3).trans b5.o,(E.o.rules.2 _ _ y3).trans b6.o⟩;obtain⟨_,b3,g,l,m,V⟩:=P;rw[<-d7.o] at l m;rw[a7.o] at l;rw[e3.o] at m;cases l;cases m;exact a8.o V
  have i1:=Kz d9;clear d9
  gi_region_with_o (refine⟨trivial, ?_⟩;gi_at_call 126;refine (CallsIn.inRound a6 (callsIn_wide.2 (FE _ q x c t.r.name f4 hA (d8.kept (aV W))))).mono ?_;rintro e w2 ⟨⟨p,C,rfl,N,X⟩,D⟩;have HP:=Kz N;have b7:=Kz X;clear N X)
  all_goals exact i1.o _ p C ((K_.refl W).drew.trans D) HP.o b7.o
end
open Go.RowKit
theorem vv(w:NI)(a r:NH)(c A:Nat)(l b:List NG)(L:l.length<=1048576)(_hl':b.length<=1048576)(B:Strs w a l)(C:Strs w r b):
  Calls prog 128 #[.slice a l.length c,.slice r b.length A] w λe w'=>e= .returned (.bool (decide (l=b)))/\K_ w w':=by
 go_enter func128,ntmps128
 by_cases i:l.length=b.length
 .have D:((l.length:Int) != (b.length:Int))=false:=by simp[i]
  have E:(l.length:Int)= (b.length:Int):=E5;go_wp2
  go_loopw [13] (λm wr=>∃k:Nat,k<=l.length/\m= .a k/\Hid (∀j,j<k->l.getD j ByteArray.empty=b.getD j ByteArray.empty)/\K_ w wr) (λm _=>l.length-(intOf m).toNat)
  case atStart=>exact⟨0,Mg _,rfl,Kz λj n=>aO n,K_.refl _⟩
  case round=>
   obtain⟨k,M,rfl,s,d⟩:=hrel;by_cases F:k<l.length
   .obtain⟨N,o,rfl,O,G⟩:=B.kept d k F;obtain⟨P,Q,rfl,R,H⟩:=C.kept d k E5;have S:(k:Int)<(l.length:Int):=E5;have T:(k:Int)<(b.length:Int):=E5;obtain⟨x,p⟩:=aj (l.getD k ByteArray.empty);obtain⟨y,q⟩:=aj (b.getD k ByteArray.empty);rw[<-p] at G;rw[<-q] at H;have⟨t,v⟩:=aH p q;clear p q;cases f:(x.toList == y.toList)
    .have I:(x.toList != y.toList)=true:=by rw[bne,f];rfl
     go_upto_region 6 with fail
     go_quiet (fail)
     go_wp2
     go_ret
     have h:¬l=b:=λe=>by
      have z:=kD f;rw[t.o,v.o,e] at z;exact z rfl
     exact⟨by rw[decide_eq_false h];rfl,d.drewN _⟩
    .have I:(x.toList != y.toList)=false:=by rw[bne,f];rfl
     go_upto_region 6 with fail
     go_quiet (fail)
     go_wp2
     go_roundw
     case rel=>
      refine⟨k+1,E5,F3,Kz λj n=>?_,d.drewN _⟩;by_cases e:j=k
      .rw[e,<-t.o,<-v.o];exact fA f
      .exact s.o j E5
     case measure=>simp[intOf];omega
   .go_wp2
    go_ret
    have J:l=b:=qA i λj n=>s.o j E5
    exact⟨by rw[decide_eq_true J];rfl,d⟩
 .have D:((l.length:Int) != (b.length:Int))=true:=F6;have E:¬(l.length:Int)= (b.length:Int):=E5;have h:¬l=b:=λe=>i (by rw[e])
  have K:=Kz h;clear h;go_wp2
  go_ret
  exact⟨by rw[decide_eq_false K.o];rfl,K_.refl _⟩
theorem zX(w:NI)(tb:Nat)(r q:Q_)(z xa:NH)(I xc:Nat)(J:tb<w.heap.size)(A:w.rangeAt tb 0 (r.cells z I))(hl:r.texts.length<=1048576)(a0:q.texts.length<=1048576)(S:Strs w z r.texts)(T:Strs w xa q.texts):
  Calls prog 78 #[.c tb,.agg #[.string q.name,.bool q.over,.bool q.fail,.string q.text,.a q.at',.a q.Zq,.slice xa q.texts.length xc]] w
   λe w'=>Says e (r=q)/\K_ w w':=by
 obtain⟨L,B,C,M,D,E,N⟩:=r;obtain⟨i,b,c,j,d,f,k⟩:=q;dsimp only at hl a0 S T⊢;have s:K_ w (w.alloc (.cells #[.string i,.bool b,.bool c,.string j,.a d,.a f,.slice xa k.length xc] 40)):=ah _ _;have a6:¬tb=w.heap.size:=E5;have t:tb<(w.alloc (.cells #[.string i,.bool b,.bool c,.string j,.a d,.a f,.slice xa k.length xc] 40)).heap.size:=F6;have v:w.heap.size<(w.alloc (.cells #[.string i,.bool b,.bool c,.string j,.a d,.a f,.slice xa k.length xc] 40)).heap.size:=E9;have c0:(w.alloc (.cells #[.string i,.bool b,.bool c,.string j,.a d,.a f,.slice xa k.length xc] 40)).cell? ⟨tb,0,none⟩=some (.string L):=(s.cell J).trans (by have h:=A 0 _ rfl;simpa using h);have d0:(w.alloc (.cells #[.string i,.bool b,.bool c,.string j,.a d,.a f,.slice xa k.length xc] 40)).cell? ⟨w.heap.size,0,none⟩=some (.string i):=X_ w #[.string i,.bool b,.bool c,.string j,.a d,.a f,.slice xa k.length xc] 40 0 _ rfl;have c1:(w.alloc (.cells #[.string i,.bool b,.bool c,.string j,.a d,.a f,.slice xa k.length xc] 40)).cell? ⟨tb,1,none⟩=some (.bool B):=(s.cell J).trans (by have h:=A 1 _ rfl;simpa using h);have d1:(w.alloc (.cells #[.string i,.bool b,.bool c,.string j,.a d,.a f,.slice xa k.length xc] 40)).cell? ⟨w.heap.size,1,none⟩=some (.bool b):=X_ w #[.string i,.bool b,.bool c,.string j,.a d,.a f,.slice xa k.length xc] 40 1 _ rfl;have c2:(w.alloc (.cells #[.string i,.bool b,.bool c,.string j,.a d,.a f,.slice xa k.length xc] 40)).cell? ⟨tb,2,none⟩=some (.bool C):=(s.cell J).trans (by have h:=A 2 _ rfl;simpa using h);have d2:(w.alloc (.cells #[.string i,.bool b,.bool c,.string j,.a d,.a f,.slice xa k.length xc] 40)).cell? ⟨w.heap.size,2,none⟩=some (.bool c):=X_ w #[.string i,.bool b,.bool c,.string j,.a d,.a f,.slice xa k.length xc] 40 2 _ rfl;have c3:(w.alloc (.cells #[.string i,.bool b,.bool c,.string j,.a d,.a f,.slice xa k.length xc] 40)).cell? ⟨tb,3,none⟩=some (.string M):=(s.cell J).trans (by have h:=A 3 _ rfl;simpa using h);have d3:(w.alloc (.cells #[.string i,.bool b,.bool c,.string j,.a d,.a f,.slice xa k.length xc] 40)).cell? ⟨w.heap.size,3,none⟩=some (.string j):=X_ w #[.string i,.bool b,.bool c,.string j,.a d,.a f,.slice xa k.length xc] 40 3 _ rfl;have c4:(w.alloc (.cells #[.string i,.bool b,.bool c,.string j,.a d,.a f,.slice xa k.length xc] 40)).cell? ⟨tb,4,none⟩=some (.a D):=(s.cell J).trans (by have h:=A 4 _ rfl;simpa using h);have d4:(w.alloc (.cells #[.string i,.bool b,.bool c,.string j,.a d,.a f,.slice xa k.length xc] 40)).cell? ⟨w.heap.size,4,none⟩=some (.a d):=X_ w #[.string i,.bool b,.bool c,.string j,.a d,.a f,.slice xa k.length xc] 40 4 _ rfl;have c5:(w.alloc (.cells #[.string i,.bool b,.bool c,.string j,.a d,.a f,.slice xa k.length xc] 40)).cell? ⟨tb,5,none⟩=some (.a E):=(s.cell J).trans (by have h:=A 5 _ rfl;simpa using h);have d5:(w.alloc (.cells #[.string i,.bool b,.bool c,.string j,.a d,.a f,.slice xa k.length xc] 40)).cell? ⟨w.heap.size,5,none⟩=some (.a f):=X_ w #[.string i,.bool b,.bool c,.string j,.a d,.a f,.slice xa k.length xc] 40 5 _ rfl;have c6:(w.alloc (.cells #[.string i,.bool b,.bool c,.string j,.a d,.a f,.slice xa k.length xc] 40)).cell? ⟨tb,6,none⟩=some (.slice z N.length I):=(s.cell J).trans (by have h:=A 6 _ rfl;simpa using h);have d6:(w.alloc (.cells #[.string i,.bool b,.bool c,.string j,.a d,.a f,.slice xa k.length xc] 40)).cell? ⟨w.heap.size,6,none⟩=some (.slice xa k.length xc):=X_ w #[.string i,.bool b,.bool c,.string j,.a d,.a f,.slice xa k.length xc] 40 6 _ rfl;clear A;go_enter func78,ntmps78
 go_upto_region 1 with fail
 generalize hW:(w.alloc (.cells #[.string i,.bool b,.bool c,.string j,.a d,.a f,.slice xa k.length xc] 40))=a4 at *;clear hW;go_cut [5] from 7 to 34 (λs5 U=>K_ a4 U/\s5= .bool (decide (B=b/\C=c/\M=j)))
 case first=>
  by_cases m:B=b
  .have V:(B == b)=true:=by simp[m]
   by_cases p:C=c
   .have W:(C == c)=true:=by simp[p]
    have⟨F,K⟩:=aH m p;clear m p;cases h3:(M.toList == j.toList)
    .go_region
     all_goals
      go_wp2
      go_meet
      exact⟨(aV _),by rw[decide_eq_false (λh=>kD h3 (by rw[h.2.2]))]⟩
    .go_region
     all_goals
      go_wp2
      go_meet
      exact⟨(aV _),by rw[decide_eq_true ⟨F.o,K.o,fA h3⟩]⟩
   .have W:(C == c)=false:=by simp[p]
    have⟨F,K⟩:=aH m p;clear m p;go_region
    all_goals
     go_wp2
     go_meet
     exact⟨(aV _),by rw[decide_eq_false (λh=>K.o h.2.1)]⟩
  .have V:(B == b)=false:=by simp[m]
   have F:=Kz m;clear m;go_region
   all_goals
    go_wp2
    go_meet
    exact⟨(aV _),by rw[decide_eq_false (λh=>F.o h.1)]⟩
 case rest=>
  obtain⟨a,rfl⟩:=hcut;generalize hE:decide (B=b/\C=c/\M=j)=sE;have HE:=Kz hE;clear hE;obtain⟨n,rfl⟩:=aj wc;have t0:n.cell? ⟨tb,0,none⟩=some (.string L):=(a.cell t).trans c0;have x0:n.cell? ⟨w.heap.size,0,none⟩=some (.string i):=(a.cell v).trans d0;have t1:n.cell? ⟨tb,1,none⟩=some (.bool B):=(a.cell t).trans c1;have x1:n.cell? ⟨w.heap.size,1,none⟩=some (.bool b):=(a.cell v).trans d1;have t2:n.cell? ⟨tb,2,none⟩=some (.bool C):=(a.cell t).trans c2;have x2:n.cell? ⟨w.heap.size,2,none⟩=some (.bool c):=(a.cell v).trans d2;have t3:n.cell? ⟨tb,3,none⟩=some (.string M):=(a.cell t).trans c3;have x3:n.cell? ⟨w.heap.size,3,none⟩=some (.string j):=(a.cell v).trans d3;have t4:n.cell? ⟨tb,4,none⟩=some (.a D):=(a.cell t).trans c4;have x4:n.cell? ⟨w.heap.size,4,none⟩=some (.a d):=(a.cell v).trans d4;have t5:n.cell? ⟨tb,5,none⟩=some (.a E):=(a.cell t).trans c5;have x5:n.cell? ⟨w.heap.size,5,none⟩=some (.a f):=(a.cell v).trans d5;have t6:n.cell? ⟨tb,6,none⟩=some (.slice z N.length I):=(a.cell t).trans c6;have x6:n.cell? ⟨w.heap.size,6,none⟩=some (.slice xa k.length xc):=(a.cell v).trans d6;clear c0 c1 c2 c3 c4 c5 c6 d0 d1 d2 d3 d4 d5 d6;have K1:=s.trans a;have x:tb<n.heap.size:=Mf t a.size;have y:w.heap.size<n.heap.size:=Mf v a.size;clear a t v s;go_upto_region 2 with fail
  go_cut [6] from 35 to 52 (λs6 U=>K_ n U/\s6= .bool (decide (D=d/\E=f)))
  case first=>
   by_cases m:D=d
   .have V:(D == d)=true:=by simp[m]
    have F:=Kz m;clear m;by_cases p:E=f
    .have W:(E == f)=true:=by simp[p]
     have K:=Kz p;clear p;go_region
     all_goals
      go_wp2
      go_meet
      exact⟨(aV _),by rw[decide_eq_true ⟨F.o,K.o⟩]⟩
    .have W:(E == f)=false:=by simp[p]
     have K:=Kz p;clear p;go_region
     all_goals
      go_wp2
      go_meet
      exact⟨(aV _),by rw[decide_eq_false (λh=>K.o h.2)]⟩
   .have V:(D == d)=false:=by simp[m]
    have F:=Kz m;clear m;go_region
    all_goals
     go_wp2
     go_meet
     exact⟨(aV _),by rw[decide_eq_false (λh=>F.o h.1)]⟩
  case rest=>
   obtain⟨a,rfl⟩:=hcut;obtain⟨l,rfl⟩:=aj wc;generalize hP:decide (D=d/\E=f)=sP;have HP:=Kz hP;clear hP;have u0:l.cell? ⟨tb,0,none⟩=some (.string L):=(a.cell x).trans t0;have y0:l.cell? ⟨w.heap.size,0,none⟩=some (.string i):=(a.cell y).trans x0;have u1:l.cell? ⟨tb,1,none⟩=some (.bool B):=(a.cell x).trans t1;have y1:l.cell? ⟨w.heap.size,1,none⟩=some (.bool b):=(a.cell y).trans x1;have u2:l.cell? ⟨tb,2,none⟩=some (.bool C):=(a.cell x).trans t2;have y2:l.cell? ⟨w.heap.size,2,none⟩=some (.bool c):=(a.cell y).trans x2;have u3:l.cell? ⟨tb,3,none⟩=some (.string M):=(a.cell x).trans t3;have y3:l.cell? ⟨w.heap.size,3,none⟩=some (.string j):=(a.cell y).trans x3;have u4:l.cell? ⟨tb,4,none⟩=some (.a D):=(a.cell x).trans t4;have y4:l.cell? ⟨w.heap.size,4,none⟩=some (.a d):=(a.cell y).trans x4;have u5:l.cell? ⟨tb,5,none⟩=some (.a E):=(a.cell x).trans t5;have y5:l.cell? ⟨w.heap.size,5,none⟩=some (.a f):=(a.cell y).trans x5;have u6:l.cell? ⟨tb,6,none⟩=some (.slice z N.length I):=(a.cell x).trans t6;have y6:l.cell? ⟨w.heap.size,6,none⟩=some (.slice xa k.length xc):=(a.cell y).trans x6;have O:=K1.trans a;have a1:tb<l.heap.size:=Mf x a.size;have a2:w.heap.size<l.heap.size:=Mf y a.size;clear a x y K1 t0 t1 t2 t3 t4 t5 t6 x0 x1 x2 x3 x4 x5 x6;have hT:=S.kept O;have hX:=T.kept O;clear S T;go_upto_region 3 with fail
   cases h0:(L.toList == i.toList)
   .go_region
    all_goals
     go_wp2
     go_ret
     exact⟨Says.no (by simp[kD h0]),O.drew⟩
   .have E0:=Kz (fA h0);cases sE
    .have Q:=of_decide_eq_false HE.o;have X:=Kz Q;clear Q;go_region
     all_goals
      go_wp2
      go_ret
      exact⟨Says.no (λh=>Nv (by first | exact⟨h.2.1,h.2.2.1,h.2.2.2.1⟩ | (rw[Q_.mk.injEq] at h;exact⟨h.2.1,h.2.2.1,h.2.2.2.1⟩)) X.o),O.drew⟩
    .cases sP
     .have Q:=of_decide_eq_false HP.o;have X:=Kz Q;clear Q;go_region
      all_goals
       go_wp2
       go_ret
       exact⟨Says.no (λh=>Nv (by first | exact⟨h.2.2.2.2.1,h.2.2.2.2.2.1⟩ | (rw[Q_.mk.injEq] at h;exact⟨h.2.2.2.2.1,h.2.2.2.2.2.1⟩)) X.o),O.drew⟩
     .have a7:True:=trivial;have a3:∀w',K_ l w'->(λw'=>w'.cell? ⟨tb,0,none⟩=some (.string L)/\w'.cell? ⟨w.heap.size,0,none⟩=some (.string i)/\w'.cell? ⟨tb,6,none⟩=some (.slice z N.length I)/\w'.cell? ⟨w.heap.size,6,none⟩=some (.slice xa k.length xc)) w':=λw' a=>⟨(a.cell a1).trans u0,(a.cell a2).trans y0,(a.cell a1).trans u6,(a.cell a2).trans y6⟩
      have Y:=Kz a3;clear a3;refine Qk.region F4 (λw'=>w'.cell? ⟨tb,0,none⟩=some (.string L)/\w'.cell? ⟨w.heap.size,0,none⟩=some (.string i)/\w'.cell? ⟨tb,6,none⟩=some (.slice z N.length I)/\w'.cell? ⟨w.heap.size,6,none⟩=some (.slice xa k.length xc)) 24 (Y.o _ (aV l)) (λG=>?_);have P:K_ l l.drew:=aV l;generalize a5:l.drew=wd at G P⊢;clear a5;refine au 0 G ?_;refine au 4 G ?_;refine au 8 G ?_;refine au 12 G ?_;refine au 16 G ?_;refine ae 20 G ?_;refine ae 21 G ?_;refine aG 22 (λR H=>?_);go_simp
      go_at_call 128
      refine (vv _ z xa I xc N k hl a0 (hT.kept P) (hX.kept P)).mono ?_;rintro e w1 ⟨rfl,Z⟩;refine af H (λ_=>Y.o _ (P.trans Z)) ?_;clear H R;refine ai 23 (λR H=>?_);go_simp
      refine af H (λ_=>Y.o _ (P.trans Z)) ?_;clear H R;refine ai 24 (λR H=>?_);go_simp
      refine af H (λh=>Nv rfl h) ?_;clear H R;refine aF ?_;go_wp2
      go_ret
      have m:=of_decide_eq_true HE.o;have p:=of_decide_eq_true HP.o;exact⟨Bi (by simp[E0.out,m.1,m.2.1,m.2.2,p.1,p.2]),(O.trans P).trans Z⟩
section
variable {G : bQ} {Kq : List Qz} {wz w w' : NI} {bb : Nat} {a : NH} {cap : Nat} {rd : NH} {rn rc : Nat} {mb mx : Nat} {ts : List Zk} {d : NH} {dc : Nat} {f : NG -> NJ} {ws : NG -> List Nat}
theorem IL{l a:List Q_}(c:l.length=a.length)(h:∀j,j<l.length->l.getD j Q_.zero=a.getD j Q_.zero):l=a:=by
 refine List.ext_getElem c λi b f=>?_
 have:=h i b;simpa[List.getD,b,f] using this
theorem xn(J:BM G Kq wz w bb a cap rd rn rc mb mx ts d dc f ws)(b4:ts.length<=1048576)(Z:∀t∈ts,t.r.texts.length<=1048576)(K:NH)(a0:Nat)(c:List Q_)(_hsl:c.length<=1048576)(a1:∀r∈c,r.texts.length<=1048576)(hR:cB w K c):
  Calls prog 77 #[.slice d ts.length dc,.slice K c.length a0,.func (.func 78) #[] #[]] w λe w'=>Says e (Qj ts=c)/\K_ w w':=by
 have L:=Kz J;clear J;have M:(Qj ts).length=ts.length:=by simp[Qj]
 have y:=Kz M;clear M;go_enter func77,ntmps77
 by_cases l:ts.length=c.length
 .have a2:((ts.length:Int) != (c.length:Int))=false:=by simp[l]
  have q:=Kz l;clear l;go_wp2
  go_loopw [17] (λz wr=>∃k:Nat,k<=ts.length/\z= .a k/\Hid (∀j,j<k->(Qj ts).getD j Q_.zero=c.getD j Q_.zero)/\K_ w wr) (λz _=>ts.length-(intOf z).toNat)
  case atStart=>exact⟨0,Mg _,rfl,Kz λj A=>aO A,K_.refl _⟩
  case round=>
   obtain⟨k,hk,rfl,N,m⟩:=hrel;by_cases s:k<ts.length
   .obtain⟨g,a3,a4⟩:=(L.o.kept m).item s;obtain⟨b,o,xa,xc,a5,hb,h,B,_⟩:=hR.kept m k (by have:=q.o;omega);subst a3;subst a5;have i0:(k:Int)<(ts.length:Int):=E5;have i1:(k:Int)<(c.length:Int):=by have:=q.o;omega
    have i:=(L.o.kept m).fu ts[k] (Mq s);have C:(Qj ts).getD k Q_.zero= (ts[k]).r:=by simp[Qj,List.getD,s]
    have O:=a1 (c.getD k Q_.zero) (Bv (by have:=q.o;omega));have P:=Z ts[k] (Mq s);obtain⟨a6,D⟩:=aj (c.getD k Q_.zero);obtain⟨t,Q⟩:=aj (ts[k]);rw[<-D] at h O B;rw[<-Q] at i a4 C P;have⟨R,S⟩:=aH D C;obtain⟨n,v,E⟩:=ay i.txt;obtain⟨a7,b5,x,F⟩:=bK i.txt;have T:a7=n:=by rw[E] at x;simp only[MW] at x;exact x.1.symm
    rw[T] at F;have U:wr.rangeAt t.tb 0 (t.r.cells n v):=λj a8 V=>i.rng j a8 (by
     have e0:t.cells=t.r.cells n v++ [.a t.cost,.slice t.sa t.steps.length t.sc,.a (t.op:Int),t.qv,.string t.bl]:=by
      unfold Zk.cells Q_.cells;rw[E]
      rfl
     rw[e0];have a9:j<(t.r.cells n v).length:=(Mk.1 V).1;rw[Ni a9];exact V)
    have b0:=i.row.lt;have⟨b1,b2,b3⟩:=dF U F B;clear D Q C E x T i F B U;have W:=h 0 _ rfl;have c1:=h 1 _ rfl;have c2:=h 2 _ rfl;have c3:=h 3 _ rfl;have c4:=h 4 _ rfl;have c5:=h 5 _ rfl;have c6:=h 6 _ rfl;simp only[M_] at W;clear h;go_wp2_with fail
    refine (zX _ t.tb t.r a6 n xa v xc F7 (K_.range (ah wr _) b0 b1.o) P O (b2.o.kept (ah wr _)) (b3.o.kept (ah wr _))).mono ?_;rintro e w1 ⟨H,X⟩;have Y:K_ w w1:=m.trans (K_.trans (ah wr _) X);clear X W c1 c2 c3 c4 c5 c6;rcases H.cases with⟨rfl,p⟩ | ⟨rfl,p⟩
    .have I:=Kz p;clear p H;go_wp2
     go_roundw
     case rel=>
      refine⟨k+1,E5,F3,Kz λj A=>?_,Y⟩;by_cases e:j=k
      .rw[e,S.o,<-R.o];exact I.o
      .exact N.o j E5
     case measure=>simp[intOf];omega
    .have I:=Kz p;clear p H;go_wp2
     go_ret
     refine⟨Says.no λe=>I.o ?_,Y⟩;rw[<-S.o,R.o,e]
   .go_wp2
    go_ret
    exact⟨Says.yes (IL (by rw[y.o];exact q.o) λj A=>N.o j (by have:=y.o;omega)),m⟩
 .have a2:((ts.length:Int) != (c.length:Int))=true:=F6;have HN:=Kz l;clear l;go_wp2
  go_ret
  exact⟨Says.no λe=>HN.o (by rw[<-y.o,e]),K_.refl _⟩
end
theorem GA{e:Ending}{P:Prop}(h:Says e P):∃b:Bool,e= .returned (.bool b)/\(b=true↔P):=by
 rcases h.cases with⟨rfl,a⟩|⟨rfl,a⟩
 .exact⟨true,rfl,by simp[a]⟩
 .exact⟨false,rfl,by simp[a]⟩
theorem gD.kept{w a:NI}(h:gD w)(k:K_ w a):gD a:=λW give b c l d e f i j=>h W give b c l (k.trans d) e f i j
def ResB(Kq:List Qz)(Kj:List NG)(sl:List Q_)(a:NH)(cap:Nat)(rd:NH)(rc:Nat)(w w':NI)(e:Ending):Prop:=
 K_ w w'/\((¬(bv Kq 0/\dR Kj/\df sl)/\e= .returned (.tuple #[.pointer none,.bool false]))\/
  (bv Kq 0/\dR Kj/\df sl/\∃(wz:NI) (bb mb mx:Nat) (ts:List Zk) (d:NH) (dc:Nat) (f:NG->NJ) (ws:NG->List Nat) (b:Bool),e= .returned (.tuple #[.c bb,.bool b])/\K_ w wz/\BM (bQ.no wz) Kq wz w' bb a cap rd Kj.length rc mb mx ts d dc f ws/\BS Kq ts ws/\mx<=9000/\(b=true↔Qj ts=sl)/\
   (∃k,a_ (Behind (W:=Kk Kq) dI (Qq sl)) (doX (Kk Kq)) (Qq (bM Kq Kj)) (Qq (Qj ts)) k)/\AtEnd (Behind (W:=Kk Kq) dI (Qq sl)) (Qq (Qj ts))))
theorem vJ(w:NI)(a:NH)(k:Nat)(b:List Qz)(p:NH)(q:Nat)(Kj:List NG)(d:NH)(f:Nat)(c:List Q_)(hl:b.length<=1048576)(hf:∀s∈b,s.Fits)(c5:Kj.length<=maxLen)(c6:Kj.length<=q)(c7:∀s∈Kj,s.size<=maxLen)(U:c.length<=1048576)(c8:∀r∈c,r.texts.length<=1048576)(hS:bT w a b)(hR:Strs w p Kj)(V:cB w d c)(c9:gD w):
  Calls prog 32 #[.agg #[.slice a b.length k],.agg #[.slice p Kj.length q,.slice d c.length f]] w λe w'=>ResB b Kj c a k p q w w' e:=by
 go_enter func32,ntmps32
 go_wp2_with fail
 have y:K_ w ((w.alloc (.cells #[.slice a b.length k] 25)).alloc (.cells #[.slice p Kj.length q,.slice d c.length f] 32)):=(ah _ _).alloc _;refine (xD _ a k b p q Kj hl hf c5 c6 c7 (hS.kept y) (hR.kept y)).mono ?_;rintro e z ⟨F,d0⟩;have X:=y.trans F;have d1:=F.size;simp only[MS] at d1;have q1:=Eh (w:=w.alloc (.cells #[.slice a b.length k] 25)) F;simp only[MS] at q1;obtain⟨p0,p1⟩:=q1;have d3:w.heap.size+1<z.heap.size:=E5;rcases d0 with⟨a5,rfl⟩|⟨hW,a6,G,t,H,A,d4,dc,rfl,I,Y,a7,a8⟩
 .have Z:=Kz a5;clear a5;go_wp2
  go_ret2
  exact⟨X.alloc _,.inl ⟨λv=>Z.o ⟨v.1,v.2.1⟩,rfl⟩⟩
 have⟨J,d5,HB,d6,d7⟩:=iZ hW a6 Y a7 a8;have B:=y.trans I;have q3:=Eh (w:=w.alloc (.cells #[.slice a b.length k] 25)) I;simp only[MS] at q3;have sz:=q3.2;have d8:w.heap.size+1<G.heap.size:=by have:=I.size;simp only[MS] at this;omega
 clear q3;have f6:=Y.row.lt;clear hW a6 Y a7 a8 y F I;go_wp2_with fail
 refine (Cv _ d f c U (V.kept (X.alloc _))).mono ?_;rintro e L ⟨x,C⟩;have K2:K_ w L:=(X.alloc _).trans C;have a9:K_ z L:=K_.trans (ah _ _) C;have b0:=C.size;simp only[MS] at b0;have q2:=Eh (w:=z) C;obtain⟨g0,g1⟩:=q2;rcases x.cases with⟨rfl,D⟩|⟨rfl,D⟩;rotate_left
 .have Z:=Kz D;clear D x;go_wp2
  go_ret2
  exact⟨K2,.inl ⟨λv=>Z.o v.2.2,rfl⟩⟩
 have f7:=(a9.cell (o:=1) d3).trans p1;have b1:=lH J.o;have f8:tK b A<=1380:=by
  have:=yR (b.map (·.name)) (Qq (Qj A));rw[Nn] at this;unfold tK;omega
 have HA:=Kz D;have d9:=Kz (HB.o.kept a9);have b2:Hid (vS L t H A (λ_=>.slice none 0 0) z.heap.size):=⟨E5,HB.o.far (Me _)⟩;clear D x HB p0 p1 C;obtain⟨h,M⟩:=aj z.heap.size;rw[<-M] at g0 g1 b0 b2;have f9:h<L.heap.size:=E5;go_wp2_with fail
 rw[<-M];have g2:=Kz M;clear M;go_loopg [28] (tK b A) (λgg g3 wr=>∃(mx:Nat) (l:List Zk) (d2:NH) (b3:Nat) (f2:NG->NJ) (a0:NG->List Nat),wr.cell? ⟨h,0,none⟩=some (.slice d c.length f)/\wr.cell? ⟨h,1,none⟩=some (.func (.func 74) #[] #[])/\Hid (vS wr t H l f2 h)/\Hid (BM (bQ.no G) b G wr t a k p Kj.length q H mx l d2 b3 f2 a0)/\Hid (BS b l a0)/\mx+6*tK b l<=9000/\gg=tK b l/\Hid (∃N,a_ (Behind (W:=Kk b) dI (Qq c)) (doX (Kk b)) (Qq (bM b Kj)) (Qq (Qj l)) N))
 case atStart=>exact⟨0,A,d4,dc,_,_,g0,g1,b2,d9,d6,E5,rfl,Kz ⟨0,by rw[d7.o];exact .here _⟩⟩
 case round=>
  obtain⟨mx,l,d2,b3,f2,a0,v0,v1,e0,e1,e2,e3,rfl,e4⟩:=hrel;obtain⟨wO,rfl⟩:=aj wr;go_wp2_with fail
  refine (AP e1.o e2.o (cO J.o) hf b1 (qI J.o) (hS.kept B) (c9.kept B) d f c U HA.o (V.kept B) (Qq (bM b Kj)) e4.o e3 (λN=>N=h) (λN hk=>by rw[hk];exact e0.o)).mono ?_;rintro e i ⟨b5,E,O,P,f3,b6,e5,rfl,m,b7,e6,b8,b9,a1,Q⟩;obtain⟨a2,Q⟩:=Q h rfl;have u0:=(Mt (w:=wO) (a:=⟨h,0,none⟩) a2).trans v0;have u1:=(Mt (w:=wO) (a:=⟨h,1,none⟩) a2).trans v1;have K3:K_ w i:=B.trans m.kw;have⟨R,S,c0,e7,e8⟩:=iZ m b7 b8 b9 Q;have c3:=m.c3;have e9:=m.row.lt;have g4:=m.kw.size;have s3:=(m.kw.cell (o:=1) d8).trans sz;have f0:w.heap.size+1<i.heap.size:=E5;clear m b7 b8 b9 Q a2;cases e5;rotate_left
  .have f1:=a1 rfl;clear a1;go_wp2
   go_roundg (tK b E)
   case measure=>exact f1
   case rel=>exact⟨b5,E,O,P,f3,b6,u0,u1,e8,R,S,e6,rfl,c0⟩
  .clear a1;have g5:=R.o.len b1;go_upto_region 6 with fail
   have c1:∀w',K_ i w'->(λw'=>w'.cell? ⟨t,3,none⟩=some (.slice O E.length P)/\w'.cell? ⟨w.heap.size+1,1,none⟩=some (.slice d c.length f)) w':=λw' kk=>⟨(kk.cell e9).trans c3,(kk.cell f0).trans s3⟩
   have a3:=Kz c1;clear c1;refine Qk.region F4 (λw'=>w'.cell? ⟨t,3,none⟩=some (.slice O E.length P)/\w'.cell? ⟨w.heap.size+1,1,none⟩=some (.slice d c.length f)) 10 (a3.o _ (aV i)) (λa4=>?_);have n:K_ i i.drew:=aV i;generalize f4:i.drew=wd at a4 n⊢;clear f4;refine au 0 a4 ?_;refine au 4 a4 ?_;refine aG 8 (λK j=>?_);go_simp
   go_at_call 77
   refine (xn (R.o.kept n) E5 (λc2 ht=>by have g6:=(S.o.good.good c2.r (Nf ht)).tl;have g7:=(S.o.good.good c2.r (Nf ht)).hi;omega) d f c U c8 ((V.kept K3).kept n)).mono ?_;rintro e w4 ⟨x,T⟩;obtain⟨b4,rfl,c4⟩:=GA x;have f5:=Kz c4;clear x c4;refine af j (λ_=>a3.o _ (n.trans T)) ?_;clear j K;refine ai 9 (λK j=>?_);go_simp
   refine af j (λ_=>a3.o _ (n.trans T)) ?_;clear j K;refine ai 10 (λK j=>?_);go_simp
   refine af j (λv=>Nv rfl v) ?_;clear j K;refine aF ?_;go_wp2
   go_ret2
   refine⟨(K3.trans n).trans T,.inr ⟨J.o,d5.o,HA.o,G,t,H,b5,E,O,P,f3,b6,b4,rfl,B,R.o.kept (n.trans T),S.o,E5,f5.o,c0.o,e7.o (by trivial)⟩⟩
theorem EK.good{a:List Qz}{Kj:List NG}{b:List Q_}(h:EK a Kj b):dD a b:=by
 obtain⟨k,L,d,_,_,rfl⟩:=h;exact d
theorem zf{a:List Qz}{Kj:List NG}{b:List Q_}{c:List Zk}{n:NG->List Nat}(i:bv a 0)(p:dR Kj)(f:BS a c n)(q:∃k,a_ (Behind (W:=Kk a) dI (Qq b)) (doX (Kk a)) (Qq (bM a Kj)) (Qq (Qj c)) k)(h:AtEnd (Behind (W:=Kk a) dI (Qq b)) (Qq (Qj c))):Qj c=b↔dU a Kj b:=by
 have j:=(fZ (cO i) Kj).wf;obtain⟨k,l⟩:=q;constructor
 .intro e;refine⟨i,p,by rw[<-e];exact f.good.len,k,b,by rw[<-e];exact f.good, ?_, ?_,rfl⟩
  .have d:=vF (W:=Kk a) (τ :=Qq (Qj c)) (G:=Qq b) (by rw[e]) j l;rw[e] at d;exact d
  .rw[e] at h;exact λr m=>h r ⟨m.1,by obtain⟨s,g,d,t,v⟩:=m.2;exact⟨s,g,d,t,zG v⟩⟩
 .rintro⟨_,_,_,z,L,w,x,y,rfl⟩;exact xq f.good.asc w.asc ((Gz j x y l h).2 rfl)
theorem Tryz.ED(w:NI):(zeroValue 26).run prog w= .ok M0 w:=F4
structure lY (w:NI) (base mo M:Nat) (g:NG->NJ) (ol:NG->List NG):Prop where
 map:∃N D,N<=M/\w.ownsMap prog 9 asIs mo N D/\(∀s:NG,s.size<=maxLen->D.atKey (dH s) (.held M0)= .held (g s))/\∀s:NG,Maps.has D (dH s)=true↔ol s≠[]
 row:∀s,w.ownsRow base 9 1 (g s) (ol s).length ((ol s).map Value.string)
 sep:∀s s',s≠s'->∀x,(g s).ownBlock=some x->(g s').ownBlock≠some x
 low:base<=mo
section
variable {w w1 w' : NI} {base mo M : Nat} {g : NG -> NJ} {ol : NG -> List NG}
theorem lY.look(h:lY w base mo M g ol){s:NG}(b:s.size<=maxLen):(Instr.lookup 95 (.map (some mo)) (.string s) false).run prog w= .ok (g s) w:=by
 obtain⟨N,D,_,c,d⟩:=h.map;obtain⟨v,j,e,a⟩:=c.lookup Tryz.keyed underlying95 (Tryz.ED w) (zd:= .held M0) (zp:=[]) rfl (WideMaps.keyOf_string_mk underlying9 b);have f:=d.1 s b;unfold asIs at a;simp only[MV,Prod.mk.injEq] at a;have i:(DataW.held v:DataW NJ)= .held (g s):=a.1.trans f;cases i;exact e
theorem lY.but{S:Nat->Prop}(h:lY w base mo M g ol)(k:But S w w')(a:¬S mo)(h2:∀s b,(g s).ownBlock=some b->¬S b):lY w' base mo M g ol:=by
 obtain⟨N,D,c,d,e⟩:=h.map;exact⟨⟨N,D,c,iH d k a,e⟩,λs=>k.owns (h.row s) (h2 s),h.sep,h.low⟩
theorem lY.kept(h:lY w base mo M g ol)(k:K_ w w'):lY w' base mo M g ol:=
 h.but (S:=λ_=>False) (But.ax k) id (λ_ _ _=>id)
theorem lY.qQ(h:lY w base mo M g ol){s:NG}(b:s.size<=maxLen)(f:w.grownBy w1 (g s).ownBlock):(Instr.lookup 95 (.map (some mo)) (.string s) false).run prog w1= .ok (g s) w1:=by
 obtain⟨N,D,_,c,i⟩:=h.map;have j:w1.ownsMap prog 9 asIs mo N D:=iH (S:=λd=>(g s).ownBlock=some d) c (But.aI f (λd e=>e)) (λe=>iq c (Y_ (h.row s) e) rfl);obtain⟨v,m,k,a⟩:=j.lookup Tryz.keyed underlying95 (Tryz.ED w1) (zd:= .held M0) (zp:=[]) rfl (WideMaps.keyOf_string_mk underlying9 b);have e:=i.1 s b;unfold asIs at a;simp only[MV,Prod.mk.injEq] at a;have l:(DataW.held v:DataW NJ)= .held (g s):=a.1.trans e;cases l;exact k
theorem lY.put(h:lY w base mo M g ol){s:NG}(G:s.size<=maxLen){x:NG}{f:NJ}(v:w1.ownsRow base 9 1 f ((ol s).length+1) ((ol s).map Value.string++ [.string x]))(H:w.grownBy w1 (g s).ownBlock)(z:∀b,f.ownBlock=some b->(g s).ownBlock=some b\/w.heap.size<=b)(R:M<=1000000):
  ∃w2,(Instr.mapUpdate 95 (.map (some mo)) (.string s) f).run prog w1= .ok () w2/\lY w2 base mo (M+1) (λn=>if n=s then f else g n) (λn=>if n=s then ol s++ [x] else ol n)/\But (λb=>(g s).ownBlock=some b\/b=mo) w w2:=by
 obtain⟨N,I,S,l,A⟩:=h.map;have B:But (λb=>(g s).ownBlock=some b) w w1:=But.aI H (λb e=>e);have C:=iH l B (λe=>iq l (Y_ (h.row s) e) rfl);obtain⟨w2,J,K,D⟩:=C.update Tryz.keyed underlying95 F5 (WideMaps.keyOf_string_mk underlying9 G) (d:= .held f) (ps:=[]) rfl;have E:But (λb=>(g s).ownBlock=some b\/b=mo) w w2:=(B.mono (λb _ e=>.inl e)).trans (But.aI D (λb e=>.inr (Ng e).symm));have L:But (λb=>b=mo) w1 w2:=But.aI D (λb e=>(Ng e).symm);have O:∀{b:Nat} {t:TypeId},bn w1 b t->¬b=mo:=λP e=>iq C P e
 have F:Maps.IsMap I:=by obtain⟨T,U,_,_,_,rfl⟩:=l;exact⟨_,rfl⟩
 refine⟨w2,J,⟨⟨N+1,_,E5,K,λn Q=>?_,λn=>?_⟩,λn=>?_,λn m r y i a=>?_,h.low⟩,E⟩
 .by_cases e:n=s
  .rw[Nt e,e];exact Maps.atKey_put_same (k:=dH s) F (by show WideAt.IsKeyLit (.string _);exact trivial) _ _
  .rw[Nu e,<-A.1 n Q];exact Maps.atKey_put_other (jR e) _ _
 .by_cases e:n=s
  .rw[Nt e,e];exact⟨λ_=>E9,λ_=>Maps.has_put_same (k:=dH s) F (by show WideAt.IsKeyLit (.string _);exact trivial) (.held f)⟩
  .rw[Nu e,<-A.2 n];exact Eq.to_iff (congrArg (· =true) (Maps.has_put_other (jR e) _))
 .by_cases e:n=s
  .simp only[Nt e];have p:(ol s++ [x]).length= (ol s).length+1:=E9;have c:(ol s++ [x]).map Value.string= (ol s).map Value.string++ [.string x]:=E9;rw[p,c];exact L.owns v (λb e=>O (Y_ v e))
  .simp only[Nu e];refine E.owns (h.row n) (λb p c=>?_);rcases c with c | c
   .exact h.sep n s e b p c
   .exact iq l (Y_ (h.row n) p) c
 .by_cases e:n=s
  .rw[Nt e] at i;rw[Nu (λj=>r (e.trans j.symm))] at a;rcases z y i with q | q
   .exact h.sep s m (λj=>r (e.trans j)) y q a
   .have:=((h.row m).lt y a).2;omega
  .rw[Nu e] at i;by_cases j:m=s
   .rw[Nt j] at a;rcases z y a with q|q
    .exact h.sep n s e y i q
    .have:=((h.row n).lt y i).2;omega
   .rw[Nu j] at a;exact h.sep n m r y i a
theorem lY.made{base:Nat}(b:base<=w.heap.size):lY (w.alloc (.map #[] 0)) base w.heap.size 0 (λ_=>.slice none 0 0) (λ_=>[]):=
 ⟨⟨0,.map [],Me _,World.ownsMap_made w prog 9 asIs,λs _=>rfl,λs=>by simp[Maps.has]⟩,λs=>Nc _ _ _ _,λs d _ x h=>(by cases h),b⟩
end
def Ag(ts:List Zk)(ws:NG->List Nat)(x s:NG):Prop:=∃t∈ts,t.r.name=x/\t.tb∈ws s
structure CP (ts:List Zk) (ws:NG->List Nat) (M:Nat) (P:NG->Prop) (ol:NG->List NG):Prop where
 iff:∀x s,s∈ol x↔P s/\Ag ts ws x s
 nd:∀x,(ol x).Nodup
 len:∀x,(ol x).length<=M
variable {ws : NG -> List Nat} {P : NG -> Prop} {ts : List Zk}
theorem CP.start(h:∀s,¬P s):CP ts ws 0 P (λ_=>[]):=
 ⟨λx s=>⟨λe=>(by cases e),λe=>(h s e.1).elim⟩,λ_=>List.nodup_nil,λ_=>Me _⟩
structure BR (ts:List Zk) (ws:NG->List Nat) (M:Nat) (P:NG->Prop) (s:NG) (k:Nat) (ol:NG->List NG):Prop where
 iff:∀x s',s'∈ol x↔(P s'/\Ag ts ws x s')\/(s'=s/\∃t∈ts,t.r.name=x/\t.tb∈(ws s).take k)
 nd:∀x,(ol x).Nodup
 len:∀x,(ol x).length<=M
variable {ol : NG -> List NG}
theorem CP.enter{M:Nat}(h:CP ts ws M P ol)(s:NG):BR ts ws M P s 0 ol:=
 ⟨λx d=>by rw[h.iff];simp,h.nd,h.len⟩
variable {s : NG}
theorem BR.leave{M:Nat}{Q:NG->Prop}{k:Nat}(h:BR ts ws M P s k ol)(d:(ws s).length<=k)(e:∀c,Q c↔P c\/c=s):CP ts ws M Q ol:=
 ⟨λx c=>by
  rw[h.iff,e,MO d];constructor
  .rintro (⟨a,b⟩|⟨a,b⟩)
   .exact⟨.inl a,b⟩
   .subst a;exact⟨.inr rfl,b⟩
  .rintro⟨a|a,b⟩
   .exact .inl ⟨a,b⟩
   .subst a;exact .inr ⟨rfl,b⟩,h.nd,h.len⟩
theorem BR.put{M:Nat}{k:Nat}(i:BR ts ws M P s k ol)(D:¬P s)(l:df (Qj ts))(E:(ts.map (·.tb)).Nodup)(F:(ws s).Nodup){u:Zk}(m:u∈ts)(G:(ws s)[k]? =some u.tb):
  BR ts ws (M+1) P s (k+1) (λn=>if n=u.r.name then ol u.r.name++ [s] else ol n):=by
 obtain⟨q,v⟩:=Mk.1 G;have w:(ws s).take (k+1)= (ws s).take k++ [u.tb]:=by rw[Ml q,v]
 have one:∀t∈ts,t.r.name=u.r.name->t=u:=λt y e=>by
  have a:=bJ l (Nf (f:=λt:Zk=>t.r) y);have d:=bJ l (Nf (f:=λt:Zk=>t.r) m);rw[e,d] at a;obtain⟨p,z,rfl⟩:=Ms y;obtain⟨j,A,rfl⟩:=Ms m;rcases Ns p j with g | g | g
  .have:=Mr.1 l p j (by simpa[Qj] using z) (by simpa[Qj] using A) g;simp only[Qj,List.getElem_map] at this;exact Nv e (dJ this)
  .subst g;rfl
  .have:=Mr.1 l j p (by simpa[Qj] using A) (by simpa[Qj] using z) g;simp only[Qj,List.getElem_map] at this;exact Nv e.symm (dJ this)
 have H:u.tb∉(ws s).take k:=λi=>by
  obtain⟨I,J,e⟩:=Ms i;rw[MG] at J;rw[MQ] at e;have:=Mr.1 F I k E5 q E5;exact this (e.trans v.symm)
 refine⟨λx L=>?_,λx=>?_,λx=>?_⟩
 .by_cases e:x=u.r.name
  .simp only[Nt e];subst e;rw[Mo,Mm,i.iff,w];constructor
   .rintro ((a|⟨a,t,d,h,c⟩) | a)
    .exact .inl a
    .exact .inr ⟨a,t,d,h,Mo.2 (.inl c)⟩
    .exact .inr ⟨a,u,m,rfl,Mo.2 (.inr E9)⟩
   .rintro (a|⟨a,t,d,h,c⟩)
    .exact .inl (.inl a)
    .exact .inr a
  .simp only[Nu e];rw[i.iff,w];constructor
   .rintro (a|⟨a,t,d,h,c⟩)
    .exact .inl a
    .exact .inr ⟨a,t,d,h,Mo.2 (.inl c)⟩
   .rintro (a|⟨a,t,d,h,c⟩)
    .exact .inl a
    .rcases Mo.1 c with c|c
     .exact .inr ⟨a,t,d,h,c⟩
     .rw[Mm] at c;have:=qF E d m c;rw[this] at h;exact Nv h.symm e
 .by_cases e:x=u.r.name
  .simp only[Nt e];rw[List.nodup_append];refine⟨i.nd _,E9,λN B b C K=>?_⟩;rw[Mm] at C;rw[K,C,i.iff] at B;rcases B with⟨a,_⟩ | ⟨_,t,d,h,c⟩
   .exact D a
   .rw[one t d h] at c;exact H c
  .simp only[Nu e];exact i.nd x
 .by_cases e:x=u.r.name
  .simp only[Nt e];rw[MU];have:=i.len u.r.name;show _+1<=M+1;omega
  .simp only[Nu e];have:=i.len x;omega
variable {left : Lit -> Bool} {cnt : Nat}
theorem xh{H:Type}{P:Program}{k:TypeId}{c:NJ->Option (DataW H×List MemPlace)}{w w':NI}{b r n:Nat}{D:DataW H}{S:Nat->Prop}(h:w.ranges P k c b r n D left cnt)(q:But S w w')(i:¬S b)(j:¬S r):w'.ranges P k c b r n D left cnt:=by
 obtain⟨l,m,p,s,t,e,v,x,y,f,z⟩:=h;exact⟨l,m,p,s,t,(q.block b (aN e) i).trans e,v,x,y,(q.block r (aN f) j).trans f,z⟩
theorem uC{H:Type}{P:Program}{k:TypeId}{a:NJ->Option (DataW H×List MemPlace)}{w:NI}{b r n:Nat}{D:DataW H}(h:w.ranges P k a b r n D left cnt){t:TypeId}:¬bn w r t:=by
 obtain⟨d,f,i,j,l,_,_,_,_,c,_⟩:=h;rintro⟨m,p,e⟩;rw[c] at e;cases e
theorem DF{H:Type}{P:Program}{k:TypeId}{a:NJ->Option (DataW H×List MemPlace)}{w:NI}{b r n:Nat}{D:DataW H}(h:w.ranges P k a b r n D left cnt){t:TypeId}:¬bn w b t:=by
 obtain⟨d,f,i,j,l,c,_⟩:=h;rintro⟨m,p,e⟩;rw[c] at e;cases e
theorem BS.LZ{b:List Qz}(h:BS b ts ws)(f:bg (Kk b)){t:Zk}(c:t∈ts)(i:t.tb∈ws s):1<=s.size/\s.size<=20:=by
 have a:=(h.wt s t c).1 i;obtain⟨A,d,j,k⟩:=(h.good.good t.r (Nf c)).act;unfold pend at a
 split at a
 .cases a
 .rw[d] at a;have e:=(ib (f _ _ d).1 j k).2 s (List.mem_filter.1 a).1;exact⟨e.1,e.2.1⟩
theorem Ha{a:NG}:(dH a).sameKey (dH s)=true↔a=s:=by
 constructor
 .intro h;by_cases e:a=s
  .exact e
  .rw[Maps.sameKey_ne (jR e)] at h;cases h
 .rintro rfl;simp[dH,Lit.sameKey]
def KI(ts:List Zk)(ws:NG->List Nat)(w w':NI)(e:Ending):Prop:=
 ∃mo M g ol,e= .returned (.map (some mo))/\lY w' w.heap.size mo M g ol/\CP ts ws M (λ_=>True) ol/\M<=600000/\K_ w w'
section
variable {G : bQ} {Kq : List Qz} {wz w w' : NI} {bb : Nat} {a : NH} {cap : Nat} {rd : NH} {rn rc : Nat} {mb mx : Nat} {ts : List Zk} {d : NH} {dc : Nat} {f : NG -> NJ} {ws : NG -> List Nat}
theorem Fy(N:BM G Kq wz w bb a cap rd rn rc mb mx ts d dc f ws)(hS:BS Kq ts ws)(c4:bg (Kk Kq))(h1:mx<=9000)(h2:ts.length<=60):
  Calls prog 41 #[.c bb] w λe w'=>KI ts ws w w' e:=by
 obtain⟨V,D,hN,W,hf⟩:=N.map;have h3:=W.size_le;obtain⟨E,O⟩:=aj (w.alloc (.map #[] 0));have P:K_ w E:=by rw[O];exact ah _ _
 have c5:Hid (lY E w.heap.size w.heap.size 0 (λ_=>.slice none 0 0) (λ_=>[])):=by rw[O];exact lY.made (Me _)
 have zM:E.heap.size=w.heap.size+1:=by rw[O];simp
 have HM:=Kz (iH (S:=λ_=>False) W (But.ax P) id);have e5:E.cell? ⟨bb,5,none⟩=some (.map (some mb)):=(N.kept P).c5;have bz:bb<E.heap.size:=(N.kept P).row.lt;have h5:mb<w.heap.size:=W.lt;have⟨I,Q,HF⟩:=dF N hS hf;clear N hS W hf;have e6:(Instr.makeMap 95 none).run prog w= .ok (.map (some w.heap.size)) (w.alloc (.map #[] 0)):=rfl;go_enter func41,ntmps41
 go_upto_region 2 with fail
 clear e6;rw[<-O];clear O;go_wp2_with (first | (at_range;refine wpList_range_own _ rfl _ 117 rfl 9 118 Tryz.keyed underlying117 asIs mb V D rfl HM.o ?_;intro w0 a7 a8 c6))
 go_frame
 obtain⟨v,c7⟩:=aj E.heap.size;rw[<-c7] at a7 c6⊢;have K0:K_ w w0:=(But.aI (S:=λ_=>False) a8 (λb e=>by cases e)).kept P (λb e=>e.elim);have c8:K_ E w0:=(But.aI (S:=λ_=>False) a8 (λb e=>by cases e)).kept (K_.refl _) (λb e=>e.elim);have X:=Kz (c5.o.kept c8);obtain⟨y,Y⟩:=aj w.heap.size;have X:Hid (lY w0 w.heap.size y 0 (λ_=>.slice none 0 0) (λ_=>[])):=by rw[Y];exact X
 have h6:y<v:=E5;have h7:w.heap.size<v:=E5;rw[<-Y];have c9:Hid (w.heap.size<=y):=MI Y.symm;clear Y c5 c8 a8 c6 e5 c7 zM P HM;go_loopw [4] (λ_ wr=>∃(left:Lit->Bool) (Z M:Nat) (g:NG->NJ) (k:NG->List NG),wr.ranges prog 9 asIs mb v V D left Z/\M+60*Z<=600000/\Hid (lY wr w.heap.size y M g k)/\Hid (CP ts ws M (λs=>Maps.has D (dH s)=true/\left (dH s)=false) k)/\K_ w wr) (λ_ wr=>wr.rangeLeft mb v)
 case atStart=>exact⟨_,_,0,_,_,a7,E5,X,Kz (CP.start λs h=>by have l:=h.1;have p:=h.2;rw[l] at p;cases p),K0⟩
 case round=>
  clear X K0 a7;obtain⟨left,Z,M,g,k,a9,h8,q,R,Kr⟩:=hrel;go_wp2_with (first | (at_next;refine wpList_next_ranges (α:=NG) (β:=NJ) _ rfl _ rfl 9 Tryz.keyed asIs Value.string id (λh9 kl hk=>by obtain⟨x,J,_⟩:=Maps.keyOf_str underlying9 hk;exact⟨_,J⟩) (λe7 e8 T=>⟨e7,rfl⟩) mb v V D left Z rfl a9 ?_ ?_))
  .intro d0 e9;go_wp2
   go_ret
   refine⟨y,M,g,k,rfl,q.o,⟨λx s=>?_,R.o.nd,R.o.len⟩,E5,Kr⟩;rw[R.o.iff];refine⟨λh=>⟨trivial,h.2⟩,λh=>⟨⟨?_,e9 _⟩,h.2⟩⟩;obtain⟨i0,ht,_,b0⟩:=h.2;cases a0:Maps.has D (dH s)
   .have a1:=(Q.o.LZ c4 ht b0).2;have l:=HF.o s F5;rw[Maps.atKey_of_not_has a0] at l;have p:f s= .slice none 0 0:=by injection l with l;exact l.symm
    have a2:=I.o.iW s;rw[p] at a2;rcases a2.2 with⟨_,h4⟩|⟨_,_,_,h4,_⟩
    .rw[Mw.1 h4] at b0;cases b0
    .cases h4
   .rfl
  .intro s c kl yd yp w1 b1 d1 d2 T b2 f0 f1 b3 f2 b4;have a1:s.size<=maxLen/\kl=dH s:=by
    obtain⟨x',e1,e2,f3⟩:=Maps.keyOf_str underlying9 d1;unfold encStr at e1;injection e1 with e1;subst e1;exact⟨by show x'.toArray.size<=maxLen;simpa using f3,by rw[e2];unfold dH;simp⟩
   obtain⟨a1,rfl⟩:=a1;have a3:c=f s:=by
    have l:=b2 (.held M0);rw[HF.o s a1] at l;unfold asIs at T;simp only[MV,Prod.mk.injEq] at T;rw[<-T.1] at l;injection l with l;exact l.symm
   obtain⟨ua,uc,i⟩:=ay (I.o.iW s);rw[a3,i] at b4;have a0:Maps.has D (dH s)=true:=Maps.has_true_of_atKey b2;have K1:K_ w w1:=(But.aI (S:=λb=>b=v) b3 (λb e=>(Ng e).symm)).kept Kr (λb e=>by rw[e];omega);have d3:=Kz (q.o.but (But.aI (S:=λb=>b=v) b3 (λb e=>(Ng e).symm)) E5 (λs' b e e2=>by rw[e2] at e;exact uC a9 (Y_ (q.o.row s') e)));have⟨Hu,i1,f4,f5⟩:=mM i a3 d2 a0;have f6:=Q.o.Ll s;have d4:=Kz (R.o.enter s);rw[a3,i];clear i a3 d2 a0 T b2 d1 b3 f2 q;obtain⟨t,hn⟩:=aj ((ws s).length);rw[<-hn] at b4 f6⊢;have Hn:=Kz hn;clear hn;go_wp2_with fail
   clear b4;go_loopw [21] (λxi wr=>∃(m M:Nat) (g:NG->NJ) (k:NG->List NG),m<=t/\xi= .a (m:Int)/\wr.ranges prog 9 asIs mb v V D (λz=>left z && !z.sameKey (dH s)) b1/\M+ (t-m)+60*b1<=600000/\Hid (lY wr w.heap.size y M g k)/\Hid (BR ts ws M (λs=>Maps.has D (dH s)=true/\left (dH s)=false) s m k)/\K_ w wr) (λxi _=>t-(intOf xi).toNat)
   case atStart=>exact⟨0,M,g,k,Mg _,rfl,f0,E5,d3,d4,K1⟩
   case round=>
    clear d3 d4 K1 R;obtain⟨m,M,g,k,hk,rfl,b5,i2,q,HJ,F⟩:=hrel;by_cases i3:m<t
    .obtain⟨n,a4⟩:∃n,(ws s)[m]? =some n:=⟨_,Mj (by have:=Hn.o;omega)⟩;obtain⟨u,i,a5⟩:=Q.o.ww s n (Mv a4);have b6:=I.o.kept F;have hT:=b6.fu u i;have b7:=b6.iW s;rw[Hu.o,<-Hn.o] at b7;obtain⟨b,o,rfl,hb,d5⟩:=dY b7 m (by simp;have:=Hn.o;omega);have c0:wr.cell? ⟨b,o+m,none⟩=some (.c n):=by rw[d5 m (xI n) (by simp[a4])];rfl
     obtain⟨x,J⟩:=aj u.r.name;have n0:wr.cell? ⟨n,0,none⟩=some (.string x):=by rw[<-a5,J];exact hT.rng 0 _ rfl
     have d6:n<w.heap.size:=by rw[<-a5];exact (I.o.fu u i).row.lt
     have f7:n<wr.heap.size:=Mf d6 F.size;have b8:x.size<=maxLen:=by
      obtain⟨i4,hA,_⟩:=(Q.o.good.good u.r (Nf i)).act;have:=(c4 _ _ hA).2.2.1;rw[J];unfold maxLen;omega
     obtain⟨va,vc,hg⟩:=ay (q.o.row x);have Hg:=Kz hg;have b9:Hid (∀w',K_ wr w'->w'.cell? ⟨n,0,none⟩=some (.string x)/\(Instr.lookup 95 (.map (some y)) (.string x) false).run prog w'= .ok (.slice va (k x).length vc) w'):=λw' K=>⟨(K.cell f7).trans n0,by rw[<-Hg.o];exact (q.o.kept K).look b8⟩
     have i5:=HJ.o.len x;have f8:Hid (BR ts ws (M+1) (λs=>Maps.has D (dH s)=true/\left (dH s)=false) s (m+1) (λt=>if t=x then k x++ [s] else k t)):=by
      rw[J];exact HJ.o.put (λh=>by rw[f4.o] at h;exact Nv h.2 E9) I.o.asc I.o.tbs (Q.o.wn s) i (by rw[a5];exact a4)
     obtain⟨ic,d0,f9,g0,g1⟩:=aU Tryz.eD;have i6:=F.size;have i7:(m:Int)<(t:Int):=E5;clear hT b6 b7 d5 hg a4 a5 J;go_upto_region 8 with fail
     clear c0 n0;refine bC 16 b9.o λH KD L=>?_
     refine au 0 L ?_;refine au 4 L ?_;refine au 8 L ?_;refine ae 12 L ?_;refine ae 13 L ?_;refine ai 14 (λK A=>?_);go_simp
     have K5:K_ H (H.alloc (.cells #[.string s] 9)):=ah _ _;have c1:(H.alloc (.cells #[.string s] 9)).cell? ⟨H.heap.size,0,none⟩=some (.string s):=X_ H #[.string s] 9 0 _ rfl;have B:=KD.trans K5;refine A.out _ _ (λ_=>b9.o _ B) ?_;clear A K L;have C:=Kz (q.o.kept B);obtain⟨eb,d7⟩:=aj H.heap.size;rw[<-d7] at c1⊢;generalize g2:H.alloc (.cells #[.string s] 9)=w6 at c1 B C⊢;clear g2 K5 d7;have c2:=C.o.row x;rw[Hg.o] at c2;have g3:=Kz c2;have g4:w.heap.size<=w6.heap.size:=(F.trans B).size;clear c2;try simp only[upP]
     refine ai 15 (λK A=>?_);refine step_append_lies _ rfl (.tmp 37) (.tmp 39) 26 rfl w.heap.size 9 ic _ 1 16 underlying26 d0 f9 g0 g1 rfl E8 (.slice va (k x).length vc) (k x).length ((k x).map Value.string) rfl g3.o ⟨eb,0,none⟩ 1 1 [.string s] rfl rfl (λj u i=>?_) (λu i=>?_) E8 F5 E5 g4 w6.heap.size rfl ?_
     .match j,i with
      | 0,i=>simp at i;subst i;rw[MZ];exact c1
      | j+1,i=>simp at i
     .simp at i;subst i;rfl
     intro gb gc w7 d8 U c3 i8;rw[<-Hg.o] at U c3;obtain⟨w8,g5,d9,e0⟩:=C.o.put (s:=x) (x:=s) b8 d8 U (λe8 e=>by simp only[Value.ownBlock,MV] at e;subst e;rcases c3 with h | h;exact .inl h;exact .inr (MI h.symm)) E5;have⟨g6,e3⟩:=aH d9 e0;have e4:But (λb=>(g x).ownBlock=some b) w6 w7:=But.aI U (λb e=>e);have g7:n<w6.heap.size:=Mf d6 (F.trans B).size;have g8:Hid (w7.cell? ⟨n,0,none⟩=some (.string x)/\(Instr.lookup 95 (.map (some y)) (.string x) false).run prog w7= .ok (.slice va (k x).length vc) w7):=by
      exact⟨(e4.cell g7 (λe=>by have:=((C.o.row x).lt n e).1;omega)).trans (b9.o _ B).1,by have h:=C.o.qQ (s:=x) b8 U;rw[Hg.o] at h;exact h⟩
     refine af A (λ_=>g8.o) ?_;clear A K d9 d8 U c3 e4 e0;refine ai 16 (λK A=>?_);go_simp
     refine af A (λh=>Nv rfl h) ?_;clear A K;refine aF ?_;have K8:K_ w w8:=e3.o.kept (F.trans B) (λb e=>by
      rcases e with e|e
      .exact ((C.o.row x).lt b e).1
      .rw[e];exact c9.o)
     have a6:=xh (S:=λ_=>False) b5 (But.ax B) id id;have g9:=xh a6 e3.o (λe=>by
      rcases e with e|e
      .exact DF a6 (Y_ (C.o.row x) e)
      .have:=c9.o;omega) (λe=>by
      rcases e with e|e
      .exact uC a6 (Y_ (C.o.row x) e)
      .omega)
     clear a6 g5;go_wp2
     go_roundw
     case rel=>exact⟨m+1,M+1,_,_,E5,F3,g9,E5,g6,f8,K8⟩
     case measure=>simp[intOf];omega
    .have h0:m=t:=E5;go_wp2
     go_roundw
     case rel=>
      refine⟨_,b1,M,g,k,b5,E5,q,Kz (HJ.o.leave (by rw[h0,Hn.o];exact Me _) (λs'=>?_)),F⟩;constructor
      .rintro⟨l,p⟩;by_cases e:s'=s
       .exact .inr e
       .refine .inl ⟨l, ?_⟩;have a2:(dH s').sameKey (dH s)=false:=Maps.sameKey_ne (jR e);rw[a2] at p;simpa using p
      .rintro (⟨l,p⟩|rfl)
       .exact⟨l,by rw[p];rfl⟩
       .exact⟨f5.o,by rw[Ha.2 rfl];simp⟩
     case measure=>rw[b5.left_eq,a9.left_eq];exact f1
end
attribute [local go_sem] Oper.semAt_some
def Jk(B:Nat)(d:NH)(tx:Nat->NG)(i:Nat)(W:NI):Prop:=∃b o,d=some ⟨b,o,none⟩/\b<B/\W.cell? ⟨b,o+i,none⟩=some (.string (tx i))
theorem Af(B a:Nat)(d:NH)(f n:Nat)(b:Nat->NG)(r:n<=1048576):
  IR prog 108 #[.c a] (λi=>#[.string (b i)]) (Jk B d b) (λ_ _=>False) n (λW=>W.cell? ⟨a,0,none⟩=some (.slice d n f)):=by
 intro y J s W t c j;refine callsIn_of_wp func108 rfl trivial ?_ rfl;simp only[ntmps108,List.size_toArray,MX,List.length_nil,Nat.reduceAdd,Nat.reduceSub,Array.replicate_succ,Array.replicate_zero,List.push_toArray,List.append_toArray,List.nil_append,List.cons_append];have k:=Kz c;clear c
 gi_wp2
 gi_loopw [7] (λx wr=>∃i:Nat,i<=n/\x= .a i/\J i wr) (λx _=>n-(intOf x).toNat)
 case atStart=>exact⟨0,Mg _,rfl,j⟩
 case round=>
  obtain⟨i,v,rfl,e⟩:=hrel;by_cases l:i<n
  .rcases k.o i wr l e with⟨⟨w,o,rfl,_,z⟩,A,C,D,E,F,m⟩|⟨h,_⟩
   .gi_wp2
    refine m.mono ?_;rintro G H (⟨rfl,p⟩|⟨rfl,q⟩)
    .gi_wp2
     go_roundw
     case rel=>exact⟨i+1,E5,F3,p⟩
     case measure=>simp[intOf];omega
    .gi_wp2
     refine bodyPost_ret (results_none rfl _ _ _) rfl ?_;exact⟨⟨_,rfl⟩,.inr q⟩
   .exact h.elim
  .gi_wp2
   go_end0
   have:i=n:=E5;subst this;exact⟨⟨_,rfl⟩,.inl e⟩
def AqI(w1:NI)(c:Nat)(l:List NG)(i:Nat)(W:NI):Prop:=
 K_ w1 W/\c<W.heap.size/\∃v:NJ,W.cell? ⟨c,0,none⟩=some v/\W.frozen? ⟨c,0,none⟩=false/\W.ownsRow (c+1) 9 1 v (l.take i).length ((l.take i).map Value.string)
theorem AqI.calm{w1:NI}{c:Nat}{l:List NG}{i B:Nat}(s:w1.heap.size<=c)(t:c<B):Calm B (AqI w1 c l i):=by
 constructor
 .rintro W o w ⟨k,a,v,h,j,d⟩;have f:=(K_.refl W).alloc o;exact⟨k.trans f,I8,v,(f.cell a).trans h,(f.rules.2 c 0 a).trans j,(But.ax (S:=λ_=>False) f).owns d (λ_ _=>id)⟩
 .rintro W y o m x p q ⟨k,a,v,h,j,d⟩;have n:But (λb=>b=y) W (W.putObj y m):=⟨rfl,rfl,rfl,G7,λb _ e=>World.putObj_heap_other e⟩;refine⟨n.kept k (λb e=>by rw[e];omega),by rw[World.putObj_size];exact a,v,(gG m E5).trans h,(nE m E5).trans j,n.owns d (λb r e=>?_)⟩;have:=gu (Y_ d r) (by rw[e];exact p);rw[q] at this;cases this
theorem tY{B:Nat}{v:NJ}{c o:Nat}(h:c<B):Calm B (λW=>W.cell? ⟨c,o,none⟩=some v):=by
 constructor
 .intro W d i a;obtain⟨j,e,_⟩:=cells_of_cell a;exact (((K_.refl W).alloc d).cell (aN e)).trans a
 .intro W y d f l m n a;exact (gG f E5).trans a
theorem Dp{B:Nat}{d:NH}{k:Nat->NG}{i C:Nat}(h:B<=C):Calm C (Jk B d k i):=by
 constructor
 .rintro W c l ⟨b,o,rfl,a,f⟩;exact⟨b,o,rfl,a,(tY (Mf a h)).1 W c l f⟩
 .rintro W y c n p q r ⟨b,o,rfl,a,f⟩;exact⟨b,o,rfl,a,(tY (Mf a h)).2 W y c n p q r f⟩
theorem BL :∃ic,prog.info? 9=some ic/\ic.zero=some (.string ByteArray.empty)/\ic.size=1/\ic.bytes=16:=info_parts Tryz.Ba
theorem yA(w:NI)(q:Nat)(d:NH)(Z:Nat)(l:List NG)(hn:l.length<=1048576)(a8:q<w.heap.size)(hc:w.cell? ⟨q,0,none⟩=some (.slice d l.length Z))(hS:Strs w d l):
  Calls prog 156 #[M0,.func (.func 108) #[] #[.c q]] w λe w'=>∃v,e= .returned v/\w'.ownsRow w.heap.size 9 1 v l.length (l.map Value.string)/\K_ w w':=by
 refine (callsIn_wide (n:=9)).1 ?_;refine callsIn_of_wp_marks func156 rfl trivial ?_ rfl;simp only[ntmps156,List.size_toArray,MX,List.length_nil,Nat.reduceAdd,Nat.reduceSub,Array.replicate_succ,Array.replicate_zero,List.push_toArray,List.append_toArray,List.nil_append,List.cons_append]
 gi_wp2_with fail
 obtain⟨r,A⟩:∃r,w.alloc (.cells #[M0] 26)=r:=⟨_,rfl⟩;rw[A];have a0:K_ w r:=by rw[<-A];exact ah _ _
 have z0:r.heap.size=w.heap.size+1:=by rw[<-A];simp
 obtain⟨q0,q1,_⟩:=Ce (w:=w) (v:= M0) (t:=26) (w1:=r) (by rw[A];exact K_.refl _);have F:=(a0.cell a8).trans hc;obtain⟨k,R⟩:∃k:Nat->NG,∀i,k i=l.getD i ByteArray.empty:=⟨_,λ_=>rfl⟩;have a9:Hid (∀i W,i<l.length->K_ w W->Jk w.heap.size d k i W):=λi W B a1=>by
  obtain⟨b,o,e,G,b0⟩:=hS i B;exact⟨b,o,e,G,by rw[R];exact (a1.cell G).trans b0⟩
 have b1:=Kz R;clear R;refine BU (Af w.heap.size q d Z l.length k hn) rfl (enters_of func108 F4 rfl) (tY E5) F (λ_=>rfl)
  (AqI w w.heap.size l) (λ_ _=>False) (λi=>AqI.calm (Me _) E5) (λ_=>nD _)
  ⟨a0,E5,M0,q0,q1,by rw[List.take_zero];exact Nc _ _ _ _⟩
  (λi=>{tmps:= #[M0,.func (.func 108) #[] #[.c q],.c w.heap.size,undef,M0,.string (k i),.func (.func 108) #[] #[.c q],.string (k i),undef,undef,undef,undef,undef],defers:=[]}) ?assign ?calm ?step ?done ?stop
 case assign=>
  intro b2 i W a1 hK
  gi_wp2
  exact hK
 case calm=>exact λi=>Dp E5
 case stop=>
  intro D c W _ b3 _;exact b3.elim
 case step=>
  rintro i W B ⟨s,x,v,C,H,h⟩;refine .inl ⟨a9.o i W B s, ?_⟩;clear h H C v x s;clear W;rintro b2 W _ ⟨s,x,v,C,H,h⟩ c6;obtain⟨I,J,rfl⟩:=ay h;obtain⟨f,K⟩:=aj (l.take i);have c7:f.length<=1048576:=by rw[K,MG];omega
  rw[<-K] at h C;obtain⟨j,T⟩:=aj (k i);rw[<-T];have b4:Hid (l.take (i+1)=f++ [j]):=by
   show l.take (i+1)=f++ [j];rw[Ml B,K,T,b1.o];simp[List.getD,B]
  have H3:=Kz h;clear h q0 q1 F A T K;obtain⟨ic,F,b5,b6,b7⟩:=BL;have b8:w.heap.size+1<=W.heap.size:=E5;obtain⟨V,y⟩:=aj (W.alloc (.cells #[.string j] 9));have L:K_ W V:=by rw[y];exact ah _ _
  have M:=Kz L;have z:=Kz ((But.ax (S:=λ_=>False) L).owns H3.o (λ_ _=>id));have a2:w.heap.size+1<=V.heap.size:=Mh b8 L.size;have a3:Hid (∀N u,([.string j]:List NJ)[N]? =some u->V.cell? ((⟨W.heap.size,0,none⟩:Addr).add N)=some u):=λN u O=>by rw[MZ,y];exact X_ W #[.string j] 9 N u O
  have b9:Hid (∀u∈([.string j]:List NJ),u.oneCell'=true):=λu O=>by simp only[Na,Nb,or_false] at O;subst O;rfl
  have c0:Hid (KeepsOthers W V):=by rw[y];exact KeepsOthers.alloc _ _
  rw[y] at z a3 a2;have HV:=Kz y;clear L y
  gi_wp2_with (gi_at_builtin;refine wpListIn_append_own _ rfl (.tmp 8) (.tmp 10) 26 rfl (w.heap.size+1) 9 ic _ 1 16 underlying26 F b5 b6 b7 rfl E8 (.slice I f.length J) f.length (f.map Value.string) rfl z.o ⟨W.heap.size,0,none⟩ 1 1 [.string j] rfl rfl a3.o b9.o F5 E5 a2 ?_;intro v' m U P _;rw[<-HV.o] at P z;have Q:∀b,(Value.slice I f.length J).ownBlock=some b->w.heap.size+1<=b:=λb e=>(z.o.lt b e).1;have E:But (λb=>(Value.slice I f.length J).ownBlock=some b) V m:=But.aI P (λb e=>e);have X:w.heap.size<V.heap.size:=Mf x M.o.size;have s9:m.cell? ⟨w.heap.size,0,none⟩=some (.slice I f.length J):=(E.cell X (λe=>by have:=Q _ e;omega)).trans ((M.o.cell x).trans C);have f9:m.frozen? ⟨w.heap.size,0,none⟩=false:=(World.frozen?_of_block (w:=V) (a:=⟨w.heap.size,0,none⟩) (E.block w.heap.size X (λe=>by have:=Q _ e;omega))).trans ((M.o.rules.2 _ _ x).trans H);have z9:w.heap.size<m.heap.size:=Mf X E.size;have c1:=Kz (E.kept (s.trans M.o) (λb e=>by have:=Q b e;omega));have c2:=Kz (c0.o.trans (KeepsOthers.of_grownBy P (λb o e ho=>gu (Y_ z.o e) ho)));have c3:=Kz U;obtain⟨a4,a5,rfl⟩:=ay U;clear U P E Q HV z)
  have c4:Hid (KeepsFrom r.heap.size W (m.setCell ⟨w.heap.size,0,none⟩ (.slice a4 (f.length+1) a5))):=(c2.o.trans (KeepsOthers.setCell _ _ _)).from _
  refine⟨c4.o,c1.out.setCell (Me _) _,by rw[size_setCell];exact z9,_,Nl _ _ _ s9,by rw[World.frozen?_setCell];exact f9, ?_⟩;have HO:m.ownsRow (w.heap.size+1) 9 1 (.slice a4 (f.length+1) a5) (f++ [j]).length ((f++ [j]).map Value.string):=by rw[MU,Ny];exact c3.o
  rw[b4.o];exact (But.set (S:=λb=>b=w.heap.size) (But.ax (K_.refl m)) (p:=⟨w.heap.size,0,none⟩) rfl _).owns HO (λb e c8=>by have:=(HO.lt b e).1;omega)
 case done=>
  rintro D W hD ⟨s,x,v,C,H,h⟩ a6;rw[MN] at h;have c5:w.heap.size<=D:=E5;have Y:But (λb=>b=D) W (W.putObj D (.deferred none)):=⟨rfl,rfl,rfl,G7,λb _ e=>World.putObj_heap_other e⟩;have a7:Hid (K_ w (W.putObj D (.deferred none))/\(W.putObj D (.deferred none)).ownsRow w.heap.size 9 1 v l.length (l.map Value.string)):=by
   refine⟨Y.kept s (λb e=>by rw[e];exact c5),dM (Y.owns h (λb G e=>?_)) E5⟩;have:=gu (Y_ h G) (by rw[e];exact a6);cases this
  clear h Y
  gi_wp2
  exact⟨E9,.inl ⟨_,_,rfl,run_takeDeferred a6,_,results_tmp rfl _ _ _,v,rfl,a7.o.2,a7.o.1⟩⟩
theorem Cq(w:NI)(a:Nat)(d:NH)(b:Nat)(l:List NG)(f:l.length<=1048576)(h:a<w.heap.size)(i:w.cell? ⟨a,0,none⟩=some (.slice d l.length b))(j:Strs w d l):
  Calls prog 106 #[.func (.func 108) #[] #[.c a]] w λe w'=>∃v,e= .returned v/\w'.ownsRow w.heap.size 9 1 v l.length (l.map Value.string)/\K_ w w':=by
 go_enter func106,ntmps106
 go_wp2_with fail
 refine (yA w a d b l f h i j).mono ?_;rintro e n ⟨v,rfl,c,k⟩;have m:=Kz c;clear c;go_wp2
 go_ret
 exact⟨v,rfl,m.o,k⟩
theorem DI(w:NI)(d:NH)(n a:Nat):
  Calls prog 51 #[.slice d n a] w λe w'=>e= .returned (.func (.func 108) #[] #[.c w.heap.size])/\w'=w.alloc (.cells #[.slice d n a] 26):=by
 go_enter func51,ntmps51
 go_wp2
 go_ret
 exact⟨rfl,rfl⟩
open Go.RowKit Go.Sort
def uZ(l ns:List NG):Prop:=ns.Perm l/\ns.Pairwise λa b=>¬aR b a
theorem uZ.asc{l a:List NG}(h:uZ l a)(d:l.Nodup):pW a/\∀s,s∈a↔s∈l:=by
 refine⟨?_,λs=>h.1.mem_iff⟩;have e:a.Nodup:=h.1.nodup_iff.2 d;unfold pW;exact (h.2.and e).imp λ{f b} c=>by
  rcases eT f b with g|g|g
  .exact g
  .exact Nv g c.2
  .exact Nv g c.1
theorem wW(l:List NG):uZ l (((l.map λs=>s.data.toList).mergeSort λx y=>decide (x<=y)).map λx=>(⟨x.toArray⟩:NG)):=by
 constructor
 .have h:=(List.mergeSort_perm (l.map λs=>s.data.toList) (λx y=>decide (x<=y))).map (λx:List UInt8=>(⟨x.toArray⟩:NG));rw[List.map_map] at h;have j:((λx:List UInt8=>(⟨x.toArray⟩:NG)) ∘ λs:NG=>s.data.toList)=id:=by
   funext s
   simp
  rw[j,List.map_id] at h;exact h
 .rw[List.pairwise_map];have h:=List.pairwise_mergeSort (le:=λx y:List UInt8=>decide (x<=y)) (λa b c d e=>by
   simp only[NA] at d e⊢;exact List.le_trans d e) (λa b=>by
   simp only[Bool.or_eq_true,NA];exact List.le_total a b) (l.map λs=>s.data.toList)
  refine h.imp λ{a b} f=>?_
  simp only[NA] at f;unfold aR;rw[bytesLess_eq];simp only[NA];have i:∀x:List UInt8,(⟨x.toArray⟩:NG).toList=x:=λx=>by simp[ByteArray.toList_eq]
  rw[i,i];exact List.not_lt.2 f
theorem GD(l:List NG):(l.map λs=>s.data.toList).map encStr=l.map Value.string:=by
 rw[List.map_map];apply List.map_congr_left;intro s _;simp[encStr]
theorem Du(w:NI)(h:Nat)(d:NH)(s:Nat)(l:List NG)(J:l.length<=1048576)(K:h<w.heap.size)(L:w.cell? ⟨h,0,none⟩=some (.slice d l.length s))(M:Strs w d l):
  Calls prog 50 #[.func (.func 108) #[] #[.c h]] w λe w'=>∃v ns,e= .returned v/\w'.ownsRow w.heap.size 9 1 v ns.length (ns.map Value.string)/\uZ l ns/\K_ w w':=by
 go_enter func50,ntmps50
 go_wp2_with fail
 refine (Cq w h d s l J K L M).mono ?_;rintro e b ⟨v,rfl,i,t⟩;have Y:=Kz i;rcases i.2 with⟨rfl,N⟩|⟨g,z,Z,rfl,A,j,O,B,C,D⟩
 .clear i;go_wp2_with fail
  refine (Tryz.slices_Sort_string_none none 0 b).mono ?_;rintro e E ⟨rfl,c⟩;rw[c];clear c E;go_wp2
  go_ret
  have P:l=[]:=Mw.1 N;refine⟨_,[],rfl,Nc _ _ _ _,by rw[P];exact⟨List.Perm.refl _,List.Pairwise.nil⟩,t⟩
 .obtain⟨a,k⟩:=aj (l.map λQ=>Q.data.toList);have m:a.length=l.length:=by rw[k];simp
  have F:Holds encStr b g 0 a.toArray:=holds_of_block j (by rw[m,k,GD];simpa using D);have G:=Kz (Tryz.slices_Sort_string g 0 z a b F (aN j) E5);have R:Hid (∀n f,b.grownBy (grow (putRow encStr (Sort.ahead b n) g 0 (a.mergeSort λx y=>decide (x<=y)).toArray) f) (some g)/\(grow (putRow encStr (Sort.ahead b n) g 0 (a.mergeSort λx y=>decide (x<=y)).toArray) f).ownsRow w.heap.size 9 1 (.b g a.length z) a.length ((a.mergeSort λx y=>decide (x<=y)).map encStr)):=λn f=>⟨grownBy_sorted _,ownsRow_sorted E9 A j E5 B (by simpa using C)⟩
  rw[m] at G;have⟨T,H⟩:=aH k m;clear i D C B O j F k m;go_wp2_with fail
  refine G.o.mono ?_;rintro e E ⟨rfl,n,f,c⟩;obtain⟨q,p⟩:=R.o n f;rw[<-c] at q p;rw[H.o] at p;have⟨U,V⟩:=aH q p;clear q p c;go_wp2
  go_ret
  have I:=wW l;rw[<-T.o] at I;have W:((a.mergeSort λx y=>decide (x<=y)).map λx=>(⟨x.toArray⟩:NG)).length=l.length:=by simp[H.o]
  have X:((a.mergeSort λx y=>decide (x<=y)).map λx=>(⟨x.toArray⟩:NG)).map Value.string= (a.mergeSort λx y=>decide (x<=y)).map encStr:=by rw[List.map_map];rfl
  refine⟨_,_,rfl,by rw[W,X];exact V.o,I, ?_⟩;exact (But.aI (S:=λr=>r=g) U.o (λr e=>(Ng e).symm)).kept t (λr e=>by rw[e];exact A)
theorem CG{e:List Qz}{a:List Zk}{h:NG->List Nat}(b:BS e a h)(i:nI (Kk e) (Qq (Qj a)))(n s:NG):Ag a h n s↔bI (Kk e) (Qq (Qj a)) n s:=by
 constructor
 .rintro⟨t,c,rfl,k⟩;have l:=bJ b.good.asc (Nf (f:=λt:Zk=>t.r) c);exact (BK b.good.env i l s).1 ((b.wt s t c).1 k)
 .intro j;obtain⟨r,d⟩:∃r,Qq (Qj a) n=some r:=by obtain⟨r,_,d,_⟩:=j;exact⟨r,d⟩
  obtain⟨m,p⟩:=aY d;obtain⟨t,c,rfl⟩:=MH.1 m;exact⟨t,c,p,(b.wt s t c).2 ((BK b.good.env i d s).2 j)⟩
theorem DJ{w:NI}{B N:Nat}{D:DataW NJ}(h:w.ownsMap prog 9 asIs B N D){d:List (List UInt8)}(j:d.Perm (strKeys D)):
  ∃nm:List NG,nm.length=d.length/\nm.map Value.string= (d.mergeSort λx y=>decide (x<=y)).map encStr/\pW nm/\∀s,s∈nm↔Maps.has D (dH s)=true:=by
 obtain⟨b,z,C,_⟩:=h.entries Tryz.keyed;obtain⟨E,A,F⟩:=h.keysOf;obtain rfl:b=E:=by rw[z] at A;simpa using A
 subst z;have k:∀p∈b,∃x,p.1= .string x:=λp j=>by obtain⟨v,G⟩:=F p j;obtain⟨x,_,H,_⟩:=Maps.keyOf_str underlying9 G;exact⟨x,H⟩
 have I:(strKeys (.map b)).Nodup:=by
  refine List.pairwise_map.2 (C.imp_of_mem λ{p J} c K n e=>n ?_);obtain⟨a,f⟩:=k p c;obtain⟨L,M⟩:=k J K;rw[f,M] at e⊢;exact congrArg _ e
 have O:∀x,x∈strKeys (.map b)↔Maps.has (.map b) (.string x)=true:=λx=>by
  rw[Maps.has_eq,List.any_eq_true];show x∈b.map (λp=>strOf p.1)↔_;rw[MH];constructor
  .rintro⟨p,c,rfl⟩;obtain⟨a,f⟩:=k p c;exact⟨p,c,by rw[f];simp[Lit.sameKey,strOf]⟩
  .rintro⟨p,c,i⟩;obtain⟨a,f⟩:=k p c;rw[f] at i;exact⟨p,c,by rw[f];simpa[Lit.sameKey,strOf] using i⟩
 obtain⟨l,P⟩:∃l:List NG,l=d.map λx=>(⟨x.toArray⟩:NG):=⟨_,rfl⟩
 have q:(l.map λs=>s.data.toList)=d:=by
  rw[P,List.map_map];have e:((λs:NG=>s.data.toList) ∘ λx:List UInt8=>(⟨x.toArray⟩:NG))=id:=by funext x;simp
  rw[e,List.map_id]
 have i:=wW l;rw[q] at i;have Q:l.Nodup:=by
  have m:d.Nodup:=j.nodup_iff.2 I;rw[<-q] at m;exact (List.pairwise_map.1 m).imp λ{a L} n e=>n (by rw[e])
 obtain⟨m,R⟩:=i.asc Q;refine⟨_,E9,by rw[List.map_map];rfl,m,λs=>?_⟩;rw[R];show s∈l↔Maps.has (.map b) (.string s.data.toList)=true;rw[<-O,<-j.mem_iff,<-q];constructor
 .intro r;exact Nf r
 .intro r;obtain⟨t,S,T⟩:=MH.1 r;have:t=s:=by
   have U:t.data=s.data:=by have:=congrArg List.toArray T;simpa using this
   cases t;cases s;simp_all
  rw[<-this];exact S
structure xE (w:NI) (mo:Nat) (kp:NG->Prop) (ol:NG->List NG):Prop where
 map:∃N D,N<=1000000/\w.ownsMap prog 9 asIs mo N D/\(∀s:NG,s.size<=maxLen->∃a c,D.atKey (dH s) (.held M0)= .held (.slice a (ol s).length c)/\Strs w a (ol s))/\∀s:NG,Maps.has D (dH s)=true↔kp s
 sub:∀s,ol s≠[]->kp s
theorem xE.look{w w':NI}{e:Nat}{h:NG->Prop}{b:NG->List NG}(i:xE w e h b)(k:K_ w w'){s:NG}(f:s.size<=maxLen):∃a c,(Instr.lookup 95 (.map (some e)) (.string s) false).run prog w'= .ok (.slice a (b s).length c) w'/\Strs w' a (b s):=by
 obtain⟨N,D,_,j,l,_⟩:=i.map;have m:=iH (S:=λ_=>False) j (But.ax k) id;obtain⟨v,y,p,d⟩:=m.lookup Tryz.keyed underlying95 (Tryz.ED w') (zd:= .held M0) (zp:=[]) rfl (WideMaps.keyOf_string_mk underlying9 f);obtain⟨a,c,q,r⟩:=l s f;refine⟨a,c, ?_,r.kept k⟩;unfold asIs at d;simp only[MV,Prod.mk.injEq] at d;have t:(DataW.held v:DataW NJ)= .held (.slice a (b s).length c):=d.1.trans q;cases t;exact p
def Ed(k:Nat):Nat:=k*1000000
theorem Fq(k:Nat):Ed (k+1)=Ed k+1000000:=by unfold Ed;omega
theorem ES{k:Nat}(h:k<=60):Ed k<=60000000:=by unfold Ed;omega
def Hl(kp:NG->Prop)(ol:NG->List NG)(w w':NI)(e:Ending):Prop:=
 ∃(na:NH) (nc:Nat) (nm:List NG) (nb mb M:Nat) (need back:Nat->List Nat),e= .returned (.agg #[.slice na nm.length nc,.b nb nm.length nm.length,.b mb nm.length nm.length])/\pW nm/\(∀s,s∈nm↔kp s)/\uA w' na nm nb mb need back/\Cz (λx y=>y∈ol x) nm M need back/\M<=60000000/\K_ w w'
structure ObM (u:NI) (ob:Nat) (na:NH) (nc n nb mb:Nat):Prop where
 c0:u.cell? ⟨ob,0,none⟩=some (.slice na n nc)
 c1:u.cell? ⟨ob,1,none⟩=some (.b nb n n)
 c2:u.cell? ⟨ob,2,none⟩=some (.b mb n n)
 ty:bn u ob 93
variable {mb n nb nc ob : Nat} {na : NH} {u : NI}
theorem ObM.lt(h:ObM u ob na nc n nb mb):ob<u.heap.size:=by
 obtain⟨c,f,b⟩:=h.ty;exact aN b
theorem ObM.but{S:Nat->Prop}{b:NI}(h:ObM u ob na nc n nb mb)(k:But S u b)(a:¬S ob):ObM b ob na nc n nb mb:=
 ⟨(k.cell h.lt a).trans h.c0,(k.cell h.lt a).trans h.c1,(k.cell h.lt a).trans h.c2,by
  obtain⟨c,f,d⟩:=h.ty;exact⟨c,f,(k.block _ h.lt a).trans d⟩⟩
theorem ObM.kept{a:NI}(h:ObM u ob na nc n nb mb)(k:K_ u a):ObM a ob na nc n nb mb:=h.but (S:=λ_=>False) (But.ax k) id
def TabJ(w2:NI)(na:NH)(nc n:Nat)(a b:Act)(u:NI):Prop:=
 ∃ob nb mb,b= {a with tmps:=((((((((a.tmps.setIfInBounds 14 (.slice na n nc)).setIfInBounds 15 (.slice na n nc)).setIfInBounds 16 (.a (n:Int))).setIfInBounds 17 (.b nb n n)).setIfInBounds 18 (.slice na n nc)).setIfInBounds 19 (.a (n:Int))).setIfInBounds 20 (.b mb n n)).setIfInBounds 21 (.agg #[.slice na n nc,.b nb n n,.b mb n n])).setIfInBounds 4 (.c ob)}/\
  ObM u ob na nc n nb mb/\u.rowIs nb 27 n (λ_=>.slice none 0 0)/\u.rowIs mb 27 n (λ_=>.slice none 0 0)/\nb≠mb/\w2.heap.size<=nb/\w2.heap.size<=mb/\K_ w2 u
theorem qw{b:Nat}{t:TypeId}{v:NJ}(h:u.heap[b]? =some (.cells (madeCells #[v] n) t)):u.rowIs b t n (λ_=>v):=by
 obtain⟨c,a,d⟩:=World.rowIs_made u v n t;rw[heap_alloc_new] at a;cases a;exact⟨_,h,d⟩
theorem bE(w2:NI)(a b c:Obj):((((w2.alloc a).alloc b).alloc c).drew).heap[w2.heap.size]? =some a/\((((w2.alloc a).alloc b).alloc c).drew).heap[w2.heap.size+1]? =some b/\((((w2.alloc a).alloc b).alloc c).drew).heap[w2.heap.size+1+1]? =some c/\K_ w2 (((w2.alloc a).alloc b).alloc c).drew:=by
 have e:=heap_alloc_new w2 a;have d:=heap_alloc_new (w2.alloc a) b;have f:=heap_alloc_new ((w2.alloc a).alloc b) c;rw[MS] at d;rw[MS,MS] at f;have h:K_ ((w2.alloc a).alloc b) (((w2.alloc a).alloc b).alloc c).drew:=(ah _ _).drew;have i:K_ (w2.alloc a) (((w2.alloc a).alloc b).alloc c).drew:=((ah _ _).alloc _).drew;exact⟨(i.block _ (aN e)).trans e,(h.block _ (aN d)).trans d,f,(((ah _ _).alloc _).alloc _).drew⟩
theorem jS{w2:NI}(a:u.heap[ob]? =some (.cells #[.slice na n nc,.b nb n n,.b mb n n] 93))(b:u.heap[nb]? =some (.cells (madeCells #[M0] n) 27))(h2:u.heap[mb]? =some (.cells (madeCells #[M0] n) 27))(c:nb≠mb)(d:w2.heap.size<=nb)(e:w2.heap.size<=mb)(k:K_ w2 u):
  ObM u ob na nc n nb mb/\u.rowIs nb 27 n (λ_=>.slice none 0 0)/\u.rowIs mb 27 n (λ_=>.slice none 0 0)/\nb≠mb/\w2.heap.size<=nb/\w2.heap.size<=mb/\K_ w2 u:=
 ⟨⟨by simp[World.cell?,a],by simp[World.cell?,a],by simp[World.cell?,a],⟨_,_,a⟩⟩,qw b,qw h2,c,d,e,k⟩
theorem Tryz.GR :(prog.info? 93).map (·.size)=some 3:=F4
theorem Tryz.Jn :(prog.info? 3).map (λi=>(i.zero,i.size,i.bytes))=some (some (.a 0),1,8):=F4
theorem Tryz.Jz :(prog.info? 27).map (λi=>(i.zero,i.size,i.bytes))=some (some M0,1,24):=F4
theorem CO(w:NI)(mo:Nat)(kp:NG->Prop)(Q:NG->List NG)(all:List NG)(m9:∀s,kp s->s∈all)(n0:all.length<=60)(n1:∀s,kp s->s.size<=20)(n2:∀s,(Q s).length<=1000000)(hL:xE w mo kp Q):
  Calls prog 40 #[.map (some mo)] w fun e w'=>Hl kp Q w w' e:=by
 obtain⟨n3,n4,hN,hM,hf,i2⟩:=hL.map;have n5:=hM.size_le;obtain⟨W0,b0⟩:=aj (w.alloc (.cells #[.slice none 0 0,.slice none 0 0,.slice none 0 0] 93));have k0:K_ w W0:=by rw[b0];exact ah _ _
 have n6:Hid (aD W0 w.heap.size 93 3):=by rw[b0];exact aD.made w #[.slice none 0 0,.slice none 0 0,.slice none 0 0] 93
 have i3:=iH (S:=fun _=>False) hM (But.ax k0) id;have i4:=Kz (callsIn_wide.1 (Tryz.AY (some mo) W0));have i5:=Kz (callsIn_wide.1 (Tryz.mf mo n3 n4 asIs W0 i3 (by unfold maxLen;omega) (by omega)));have⟨HM,e7,HL⟩:=dF hM i2 hL;clear hM i3 hf i2 hL n5;go_enter func40,ntmps40
 go_upto_region 1 with fail
 rw[<-b0];have p9:w.heap.size+1=W0.heap.size:=by rw[b0];simp
 clear b0;go_wp2_with fail
 refine i4.o.mono ?_;rintro e w1 ⟨rfl,i6⟩;rw[i6];clear i6 w1;go_wp2_with fail
 refine i5.o.mono ?_;rintro e b ⟨v,ss,rfl,hp,d0,n7,hb⟩;obtain⟨d,i7,i8,e8,e9⟩:=DJ HM.o hp;rw[<-i8,<-i7] at d0;have k2:K_ W0 b:=K_.trans (ah _ _) hb;obtain⟨na,T,Y,i9⟩:=bK d0;subst Y;have j0:d.length<=60:=by
  refine Mh (List.Nodup.length_le_of_subset ?_ (fun x hx=>m9 x ((e7.o x).1 ((e9 x).1 hx)))) n0;exact e8.imp fun {a f} n8=>dJ n8
 have⟨f0,j1,j2,f1⟩:=mM i9 d0 k2 e8;have f2:Hid (∀s,s∈d↔kp s):=fun s=>(e9 s).trans (e7.o s)
 have K2:=k0.trans k2;clear hp d0 n7 hb i7 i8 e9 i9 e8 i4 i5 k2 k0 e7 HM;obtain⟨n,hn⟩:=aj d.length;rw[<-hn] at j0⊢;have b1:=Kz hn;clear hn;have n9:=run_make_row' (P:=prog) 91 27 _ _ underlying91 Tryz.Jz rfl .i64 .i64 n (by omega) (by omega);go_upto_region 2 with fail
 refine BJ (TabJ b na T n) ?_ ?_
 ·go_region
  ·refine⟨rfl,b.heap.size+1+1,b.heap.size,b.heap.size+1, ?_,jS (bE b _ _ _).2.2.1 (bE b _ _ _).1 (bE b _ _ _).2.1 (by omega) (by omega) (by omega) (bE b _ _ _).2.2.2⟩;simp only[List.setIfInBounds_toArray,List.set_cons_zero,Nh]
  ·refine⟨rfl,b.heap.size+1,b.heap.size,b.heap.size+1+1, ?_,jS (bE b _ _ _).2.1 (bE b _ _ _).1 (bE b _ _ _).2.2.1 (by omega) (by omega) (by omega) (bE b _ _ _).2.2.2⟩;simp only[List.setIfInBounds_toArray,List.set_cons_zero,Nh]
  ·refine⟨rfl,b.heap.size+1+1,b.heap.size+1,b.heap.size, ?_,jS (bE b _ _ _).2.2.1 (bE b _ _ _).2.1 (bE b _ _ _).1 (by omega) (by omega) (by omega) (bE b _ _ _).2.2.2⟩;simp only[List.setIfInBounds_toArray,List.set_cons_zero,Nh]
  ·refine⟨rfl,b.heap.size+1,b.heap.size+1+1,b.heap.size, ?_,jS (bE b _ _ _).2.1 (bE b _ _ _).2.2.1 (bE b _ _ _).1 (by omega) (by omega) (by omega) (bE b _ _ _).2.2.2⟩;simp only[List.setIfInBounds_toArray,List.set_cons_zero,Nh]
  ·refine⟨rfl,b.heap.size,b.heap.size+1,b.heap.size+1+1, ?_,jS (bE b _ _ _).1 (bE b _ _ _).2.1 (bE b _ _ _).2.2.1 (by omega) (by omega) (by omega) (bE b _ _ _).2.2.2⟩;simp only[List.setIfInBounds_toArray,List.set_cons_zero,Nh]
  ·refine⟨rfl,b.heap.size,b.heap.size+1+1,b.heap.size+1, ?_,jS (bE b _ _ _).1 (bE b _ _ _).2.2.1 (bE b _ _ _).2.1 (by omega) (by omega) (by omega) (bE b _ _ _).2.2.2⟩;simp only[List.setIfInBounds_toArray,List.set_cons_zero,Nh]
 rintro f u ⟨Z,l,p,rfl,j3,f3,f4,o0,o1,o2,O⟩;clear n9;simp only[List.setIfInBounds_toArray,List.set_cons_zero,Nh];have K3:=K2.trans O;have j4:b.heap.size<=u.heap.size:=O.size;have q0:=Kz (f0.o.kept O);have d1:Hid (n_ u u.heap.size n (fun c=>if c=true then l else p) (fun _ _=>.slice none 0 0) (fun _ _=>[])):=by
  refine⟨fun c=>?_,by simpa using o0,fun c r=>Nc _ _ _ _,fun c r c' p' _ x h=>(by cases h)⟩;cases c
  ·exact f4
  ·exact f3
 have j5:=Kz j3;have q1:=fD f3;have q2:=fD f4;have j6:Hid (gH (fun x y=>y∈Q x) d 0 [] 0 0 (fun _=>[]) (fun _=>[])):=gH.start _ _ _;have j7:=O;clear f3 f4 j3 O;go_wp2
 go_loopw [24] (fun x wr=>∃(k M:Nat) (g:Bool->Nat->NJ) (L:Bool->Nat->List Nat),k<=n/\x= .int .i64 (k:Int)/\M<=Ed k/\Hid (n_ wr u.heap.size n (fun c=>if c=true then l else p) g L)/\Hid (gH (fun x y=>y∈Q x) d k [] 0 M (L true) (L false))/\Hid (ObM wr Z na T n l p)/\K_ b wr/\u.heap.size<=wr.heap.size) (fun x _=>n-(intOf x).toNat)
 case atStart=>exact⟨0,0,_,_,Mg _,rfl,Mg _,d1,j6,j5,j7,Me _⟩
 case round=>
  clear d1 j6 j5 j7;obtain⟨k,M,g,L,hk,rfl,j8,D,U,R,E,a0⟩:=hrel;by_cases j9:k<n;rotate_left
  ·obtain rfl:=b1.o;have o3:k=d.length:=by omega
   subst o3;obtain⟨q3,q4,q5,o4⟩:=R.o;have b2:=n6.o.kept (j2.o.trans E);obtain⟨⟨_,x0⟩,g0⟩:=b2.row.at (i:=0) (by omega);obtain⟨⟨_,x1⟩,g1⟩:=b2.row.at (i:=1) (by omega);obtain⟨⟨_,x2⟩,g2⟩:=b2.row.at (i:=2) (by omega);have o5:=Kz b2;clear b2 o4;go_wp2_with fail
   have hR:=Mi wr w.heap.size 0 [.slice na d.length T,.slice (some ⟨l,0,none⟩) d.length d.length,.slice (some ⟨p,0,none⟩) d.length d.length] (o5.o.row.there (o:=0) (m:=3) (Me _));have kf:But (fun f=>f=w.heap.size) wr (wr.setCells w.heap.size 0 [.slice na d.length T,.slice (some ⟨l,0,none⟩) d.length d.length,.slice (some ⟨p,0,none⟩) d.length d.length]):=But.set (S:=fun f=>f=w.heap.size) (But.set (S:=fun f=>f=w.heap.size) (But.set (S:=fun f=>f=w.heap.size) (But.ax (K_.refl wr)) (p:=⟨w.heap.size,0,none⟩) rfl _) (p:=⟨w.heap.size,1,none⟩) rfl _) (p:=⟨w.heap.size,2,none⟩) rfl _;have q6:=j2.o.size;refine Zx [.slice na d.length T,.slice (some ⟨l,0,none⟩) d.length d.length,.slice (some ⟨p,0,none⟩) d.length d.length] _ results40 rfl hR underlying93 rfl Tryz.GR rfl ⟨na,T,d,l,p,M,L true,L false,rfl,f1.o,f2.o, ?_,U.o.whole,Mh j8 (ES j0),kf.kept (K2.trans E) (fun f e=>by rw[e];exact Me _)⟩;have o6:=kf.owns (ak j1.o E) (fun f e F=>by have:=(j1.o.lt f e).1;rw[MS] at this;omega);obtain⟨a9,c9,Y,a7⟩:=bK o6;simp only[MW,true_and] at Y;rw[<-Y.1] at a7;exact n_.read (D.o.but kf (fun c e=>by cases c <;> simp at e <;> omega) (fun c r f e F=>by have:=((D.o.own c r).lt f e).1;omega)) a7
  have b3:k<d.length:=by have:=b1.o;omega
  obtain⟨rb,ro,e1,o7,k1⟩:=(f0.o.kept E) k b3;subst e1;obtain⟨s,hs⟩:=aj (d.getD k ByteArray.empty);rw[<-hs] at k1;have f5:d[k]=s:=by rw[hs];simp[List.getD,b3]
  have k3:kp s:=(f2.o s).1 (by rw[<-f5];exact Mq b3);have k5:s.size<=maxLen:=by have:=n1 s k3;unfold maxLen;omega
  obtain⟨la,lc,k6,f6⟩:=HL.o.look (K2.trans E) k5;have k7:=Kz f5;have f7:=n2 s;obtain⟨d2,hQ⟩:=aj (Q s);rw[<-hQ] at k6 f6 f7;have⟨HQ,k8⟩:=aH hQ f6;have q7:(k:Int)<(n:Int):=by omega
  clear hs f5 k3 k5 hQ f6;go_wp2_with fail
  refine (DI wr la d2.length lc).mono ?_;rintro e w3 ⟨rfl,d3⟩;have O:K_ wr w3:=by rw[d3];exact ah _ _
  have b4:w3.cell? ⟨wr.heap.size,0,none⟩=some (.slice la d2.length lc):=by rw[d3];exact X_ wr #[.slice la d2.length lc] 26 0 _ rfl
  have k9:wr.heap.size<w3.heap.size:=by rw[d3];simp
  clear d3 k6 k1;go_wp2_with fail
  refine (Du w3 wr.heap.size la lc d2 (by omega) k9 b4 (k8.o.kept O)).mono ?_;rintro e w4 ⟨v4,C,rfl,f8,f9,k4⟩;obtain⟨o8,o9,rfl⟩:=ay f8;have q8:C.length<=1000000:=by rw[f9.1.length_eq];exact f7
  have⟨g3,V⟩:=aH f9 f8;have l0:=Kz (D.o.kept (O.trans k4));have l1:=Kz (R.o.kept (O.trans k4));have l2:=Kz (U.o.enter C);have K4:=E.trans (O.trans k4);have l3:u.heap.size<=w4.heap.size:=Mh a0 (O.trans k4).size;have q9:b.heap.size<=w3.heap.size:=(E.trans O).size;clear f8 f9 b4 k9 D R U O k4 E a0 k8 f7 o7;go_wp2
  go_loopw [35] (fun x wr=>∃(j M:Nat) (g:Bool->Nat->NJ) (L:Bool->Nat->List Nat),j<=C.length/\x= .int .i64 (j:Int)/\M<=Ed k+j/\Hid (n_ wr u.heap.size n (fun c=>if c=true then l else p) g L)/\Hid (gH (fun x y=>y∈Q x) d k C j M (L true) (L false))/\Hid (ObM wr Z (some ⟨rb,ro,none⟩) T n l p)/\Hid (wr.ownsRow w3.heap.size 9 1 (.slice o8 C.length o9) C.length (C.map Value.string))/\K_ b wr/\u.heap.size<=wr.heap.size) (fun x _=>C.length-(intOf x).toNat)
  case atStart=>exact⟨0,M,g,L,Mg _,rfl,by omega,l0,l2,l1,V,K4,l3⟩
  case round=>
   clear l0 l2 l1 V K4 l3 j8;obtain⟨j,M,g,L,hj,rfl,r0,D,U,R,V,E,a0⟩:=hrel;by_cases d4:j<C.length;rotate_left
   ·have p0:C.length<=j:=by omega
    have g4:Hid (gH (fun x y=>y∈Q x) d (k+1) [] 0 M (L true) (L false)):=U.o.leave b3 p0 (fun y=>by rw[g3.o.1.mem_iff,HQ.o,k7.o]);go_wp2
    go_roundw
    case rel=>exact⟨k+1,M,g,L,by omega,by go_num,by rw[Fq];omega,D,g4,R,E,a0⟩
    case measure=>simp[intOf];omega
   obtain⟨a9,c9,Y,a7⟩:=bK V.o;simp only[MW,true_and] at Y;rw[<-Y.1] at a7;obtain⟨qb,qo,e1,r1,g5⟩:=a7 j d4;subst e1;obtain⟨s',g6⟩:=aj (C.getD j ByteArray.empty);rw[<-g6] at g5;have l4:C[j]=s':=by rw[g6];simp[List.getD,d4]
   have l5:=Kz l4;have p1:Hid (Calls prog 90 #[.slice (some ⟨rb,ro,none⟩) n T,.string s'] wr fun e w'=>qG d s' e/\w'=wr):=by
    show Calls _ _ _ _ _;rw[b1.o];exact BD wr _ T d s' (by have:=b1.o;omega) f1.o (f0.o.kept E)
   have r2:(j:Int)<(C.length:Int):=by omega
   clear Y a7 g6 l4;go_wp2_with fail
   refine p1.o.mono ?_;rintro e w5 ⟨⟨q,bq,rfl,g7,g8⟩,l6⟩;rw[l6];clear l6 w5;cases bq
   ·have p2:=Kz (g8 rfl);clear g7 g8 g5;have g4:Hid (gH (fun x y=>y∈Q x) d k C (j+1) M (L true) (L false)):=U.o.skip d4 (by rw[l5.o];exact p2.o);go_wp2
    go_roundw
    case rel=>exact⟨j+1,M,g,L,by omega,by go_num,by omega,D,g4,R,V,E,a0⟩
    case measure=>simp[intOf];omega
   obtain⟨l7,l8⟩:=g7 rfl;have l9:q<n:=by have:=b1.o;omega
   have p3:Hid (d[q]=s'):=by show d[q]=s';rw[<-l8];simp[List.getD,l7]
   have m0:Hid (gH (fun x y=>y∈Q x) d k C (j+1) (M+1) (fun r=>if r=k then L true k++ [q] else L true r) (fun r=>if r=q then L false q++ [k] else L false r)):=U.o.put ⟨f1.o,fun x y m1=>(f2.o x).2 (HL.o.sub x (fun e=>by rw[e] at m1;cases m1))⟩ d4 g3.o.2 l7 (by rw[p3.o,l5.o]) b3 (fun y hy=>by rw[g3.o.1.mem_iff,HQ.o] at hy;rw[k7.o];exact hy);have r3:=ES (show k<=60 by omega);have r4:=(U.o.len k).1;have p4:=(U.o.len q).2;obtain⟨ic,m2,m3,m4,b4⟩:=info_parts Tryz.Jn;clear g7 g8 l8 g5;obtain⟨d5,d6,g9⟩:=ay (D.o.own true k);have d7:=Kz g9;have rA:wr.cell? ⟨l,k,none⟩=some (.slice d5 (L true k).length d6):=by have h:=(D.o.row true).cell j9;rw[g9] at h;exact h
   have h0:Hid (∀w',K_ wr w'->w'.cell? ⟨Z,1,none⟩=some (.slice (some ⟨l,0,none⟩) n n)/\w'.cell? ⟨l,k,none⟩=some (.slice d5 (L true k).length d6)):=fun w' K=>⟨(K.cell R.o.lt).trans R.o.c1,(K.cell (fD (D.o.row true))).trans rA⟩
   clear g9 rA;go_upto_region 11 with fail
   refine bC 12 h0.o fun G KD H=>?_
   refine au 0 H ?_;refine au 4 H ?_;refine ae 8 H ?_;refine ai 9 (fun K A=>?_);go_simp
   have K5:K_ G (G.alloc (.cells #[.int .i64 (q:Int)] 3)):=ah _ _;have W:(G.alloc (.cells #[.int .i64 (q:Int)] 3)).cell? ⟨G.heap.size,0,none⟩=some (.int .i64 (q:Int)):=X_ G #[.int .i64 (q:Int)] 3 0 _ rfl;have I:=KD.trans K5;refine A.out _ _ (fun _=>h0.o _ I) ?_;clear A K H;have t:=Kz (D.o.kept I);have B:=Kz (R.o.kept I);obtain⟨eb,b5⟩:=aj G.heap.size;rw[<-b5] at W⊢;generalize h1:G.alloc (.cells #[.int .i64 (q:Int)] 3)=w6 at W I t B⊢;clear h1 K5 b5 KD;have a2:=t.o.own true k;rw[d7.o] at a2;have b6:=Kz a2;have b7:u.heap.size<=w6.heap.size:=Mh (a0) I.size;clear a2;try simp only[upP]
   refine ai 10 (fun K A=>?_);refine step_append_lies _ rfl (.tmp 53) (.tmp 55) 27 rfl u.heap.size 3 ic _ 1 8 underlying27 m2 m3 m4 b4 rfl (by decide) (.slice d5 (L true k).length d6) (L true k).length ((L true k).map jv) rfl b6.o ⟨eb,0,none⟩ 1 1 [.int .i64 (q:Int)] rfl rfl (fun j u z=>?_) (fun u z=>?_) (by decide) (by unfold maxLen;omega) (by omega) b7 w6.heap.size rfl ?_
   ·match j,z with
    | 0,z=>simp at z;subst z;rw[MZ];exact W
    | j+1,z=>simp at z
   ·simp at z;subst z;rfl
   intro gb gc J b8 X a3 h2;rw[<-d7.o] at X a3;obtain⟨b9,c0⟩:=t.o.put true k (x:=q) b8 X (fun y e=>by simp only[Value.ownBlock,MV] at e;subst e;rcases a3 with h | h;exact .inl h;exact .inr (MI h.symm));have a4:But (fun f=>(g true k).ownBlock=some f) w6 J:=But.aI X (fun f e=>e);have a5:J.rowIs l 27 n (g true):=f_ (t.o.row true) (a4.block _ (fD (t.o.row true)) (fun e=>aS (gB (t.o.row true)) (Y_ (t.o.own true k) e) (by decide) rfl));have h3:=a5.frozen k;have c3:=a5.cell j9;have c4:J.cell? ⟨Z,1,none⟩=some (.slice (some ⟨l,0,none⟩) n n):=(a4.cell B.o.lt (fun e=>aS B.o.ty (Y_ (t.o.own true k) e) (by decide) rfl)).trans B.o.c1;have a6:Hid (J.cell? ⟨Z,1,none⟩=some (.slice (some ⟨l,0,none⟩) n n)/\J.cell? ⟨l,k,none⟩=some (.slice d5 (L true k).length d6)):=⟨c4,by rw[c3,d7.o]⟩;have⟨h4,d8⟩:=aH b9 c0;refine A.out _ _ (fun _=>a6.o) ?_;clear A K b9 c0 b8 X a3 a4 a5 c4 h2 W;have H:=a6.o;try simp only[upP]
   refine ae 11 H ?_;refine ai 12 (fun K A=>?_);go_simp
   refine af A (fun h=>Nv rfl h) ?_;clear A K H;refine aF ?_;have m5:=Kz (But.ax (S:=fun y=>(g true k).ownBlock=some y\/y= (if true=true then l else p)) I);have c5:=Kz (m5.out.trans d8.o);have d9:=Kz (B.o.but d8.o (fun e=>by
    rcases e with e|e
    ·exact aS B.o.ty (Y_ (t.o.own true k) e) (by decide) rfl
    ·exact aS B.o.ty (gB (t.o.row true)) (by decide) e))
   generalize c6:J.setCell ⟨(if true=true then l else p),k,none⟩ (.slice (some ⟨gb,0,none⟩) ((L true k).length+1) gc)=a8 at h4 d8 d9 c5;have c7:J.setCell ⟨l,k,none⟩ (.slice (some ⟨gb,0,none⟩) ((L true k).length+1) gc)=a8:=c6;rw[c7];clear c6 c7 c3 h3 a6 b6 b7 d7 h0 m5 d8 t B I;have h5:∃(g2:Bool->Nat->NJ) (N:Bool->Nat->List Nat),Hid (n_ a8 u.heap.size n (fun c=>if c=true then l else p) g2 N)/\Hid (N=fun c r=>if c=true/\r=k then L true k++ [q] else L c r):=⟨_,_,h4,Kz rfl⟩;obtain⟨g2,N,a1,h6⟩:=h5;have r5:(N false q).length<=M:=by rw[h6.o];simpa using p4
   have e0:=Kz (c5.o.owns V.o (fun f e F=>by
    rcases F with F|F
    ·exact aS (Y_ V.o e) (Y_ (D.o.own true k) F) (by decide) rfl
    ·exact aS (Y_ V.o e) (gB (D.o.row true)) (by decide) F))
   have KA:K_ b a8:=c5.o.kept E (fun f e=>by
    rcases e with e|e
    ·exact Mh j4 ((D.o.own true k).lt f e).1
    ·rw[e];exact o1)
   have h7:u.heap.size<=a8.heap.size:=Mh a0 c5.o.size;have p5:=E;clear h4 c5 D R V E a0 p5;obtain⟨e2,e3,h8⟩:=ay (a1.o.own false q);have e4:=Kz h8;have rB:a8.cell? ⟨p,q,none⟩=some (.slice e2 (N false q).length e3):=by have h:=(a1.o.row false).cell l9;rw[h8] at h;exact h
   have h9:Hid (∀w',K_ a8 w'->w'.cell? ⟨Z,2,none⟩=some (.slice (some ⟨p,0,none⟩) n n)/\w'.cell? ⟨p,q,none⟩=some (.slice e2 (N false q).length e3)):=fun w' K=>⟨(K.cell d9.o.lt).trans d9.o.c2,(K.cell (fD (a1.o.row false))).trans rB⟩
   clear h8 rB;go_upto_region 12 with fail
   refine bC 12 h9.o fun G KD H=>?_
   refine au 0 H ?_;refine au 4 H ?_;refine ae 8 H ?_;refine ai 9 (fun K A=>?_);go_simp
   have K5:K_ G (G.alloc (.cells #[.int .i64 (k:Int)] 3)):=ah _ _;have W:(G.alloc (.cells #[.int .i64 (k:Int)] 3)).cell? ⟨G.heap.size,0,none⟩=some (.int .i64 (k:Int)):=X_ G #[.int .i64 (k:Int)] 3 0 _ rfl;have I:=KD.trans K5;refine A.out _ _ (fun _=>h9.o _ I) ?_;clear A K H;have t:=Kz (a1.o.kept I);have B:=Kz (d9.o.kept I);obtain⟨eb,b5⟩:=aj G.heap.size;rw[<-b5] at W⊢;generalize h1:G.alloc (.cells #[.int .i64 (k:Int)] 3)=w6 at W I t B⊢;clear h1 K5 b5 KD;have a2:=t.o.own false q;rw[e4.o] at a2;have b6:=Kz a2;have b7:u.heap.size<=w6.heap.size:=Mh (h7) I.size;clear a2;try simp only[upP]
   refine ai 10 (fun K A=>?_);refine step_append_lies _ rfl (.tmp 65) (.tmp 67) 27 rfl u.heap.size 3 ic _ 1 8 underlying27 m2 m3 m4 b4 rfl (by decide) (.slice e2 (N false q).length e3) (N false q).length ((N false q).map jv) rfl b6.o ⟨eb,0,none⟩ 1 1 [.int .i64 (k:Int)] rfl rfl (fun j u z=>?_) (fun u z=>?_) (by decide) (by unfold maxLen;omega) (by omega) b7 w6.heap.size rfl ?_
   ·match j,z with
    | 0,z=>simp at z;subst z;rw[MZ];exact W
    | j+1,z=>simp at z
   ·simp at z;subst z;rfl
   intro gb gc J b8 X a3 h2;rw[<-e4.o] at X a3;obtain⟨b9,c0⟩:=t.o.put false q (x:=k) b8 X (fun y e=>by simp only[Value.ownBlock,MV] at e;subst e;rcases a3 with h | h;exact .inl h;exact .inr (MI h.symm));have a4:But (fun f=>(g2 false q).ownBlock=some f) w6 J:=But.aI X (fun f e=>e);have a5:J.rowIs p 27 n (g2 false):=f_ (t.o.row false) (a4.block _ (fD (t.o.row false)) (fun e=>aS (gB (t.o.row false)) (Y_ (t.o.own false q) e) (by decide) rfl));have h3:=a5.frozen q;have c3:=a5.cell l9;have c4:J.cell? ⟨Z,2,none⟩=some (.slice (some ⟨p,0,none⟩) n n):=(a4.cell B.o.lt (fun e=>aS B.o.ty (Y_ (t.o.own false q) e) (by decide) rfl)).trans B.o.c2;have a6:Hid (J.cell? ⟨Z,2,none⟩=some (.slice (some ⟨p,0,none⟩) n n)/\J.cell? ⟨p,q,none⟩=some (.slice e2 (N false q).length e3)):=⟨c4,by rw[c3,e4.o]⟩;have⟨i0,e5⟩:=aH b9 c0;refine A.out _ _ (fun _=>a6.o) ?_;clear A K b9 c0 b8 X a3 a4 a5 c4 h2 W;have H:=a6.o;try simp only[upP]
   refine ae 11 H ?_;refine ai 12 (fun K A=>?_);go_simp
   refine af A (fun h=>Nv rfl h) ?_;clear A K H;refine aF ?_;have m6:=Kz (But.ax (S:=fun y=>(g2 false q).ownBlock=some y\/y= (if false=true then l else p)) I);have c8:=Kz (m6.out.trans e5.o);have m7:=Kz (B.o.but e5.o (fun e=>by
    rcases e with e|e
    ·exact aS B.o.ty (Y_ (t.o.own false q) e) (by decide) rfl
    ·exact aS B.o.ty (gB (t.o.row false)) (by decide) e))
   generalize c6:J.setCell ⟨(if false=true then l else p),q,none⟩ (.slice (some ⟨gb,0,none⟩) ((N false q).length+1) gc)=e6 at i0 e5 m7 c8;have c7:J.setCell ⟨p,q,none⟩ (.slice (some ⟨gb,0,none⟩) ((N false q).length+1) gc)=e6:=c6;rw[c7];clear c6 c7 c3 h3 a6 b6 b7 e4 h9 m6 e5 t B I;have p6:=Kz (c8.o.owns e0.o (fun f e F=>by
    rcases F with F|F
    ·exact aS (Y_ e0.o e) (Y_ (a1.o.own false q) F) (by decide) rfl
    ·exact aS (Y_ e0.o e) (gB (a1.o.row false)) (by decide) F))
   have KB:K_ b e6:=c8.o.kept KA (fun f e=>by
    rcases e with e|e
    ·exact Mh j4 ((a1.o.own false q).lt f e).1
    ·rw[e];exact o2)
   have p7:u.heap.size<=e6.heap.size:=Mh h7 c8.o.size;have h5:∃(i1:Bool->Nat->NJ) (L3:Bool->Nat->List Nat),Hid (n_ e6 u.heap.size n (fun c=>if c=true then l else p) i1 L3)/\Hid (L3=fun c r=>if c=false/\r=q then N false q++ [k] else N c r):=⟨_,_,i0,Kz rfl⟩;obtain⟨i1,L3,d1,m8⟩:=h5;have p8:Hid (gH (fun x y=>y∈Q x) d k C (j+1) (M+1) (L3 true) (L3 false)):=by
    have e1:L3 true=fun r=>if r=k then L true k++ [q] else L true r:=by funext r;rw[m8.o,h6.o];simp
    have F:L3 false=fun r=>if r=q then L false q++ [k] else L false r:=by funext r;rw[m8.o,h6.o];simp
    show gH _ _ _ _ _ _ _ _;rw[e1,F];exact m0.o
   clear i0 c8 a1 e0 KA h7 m0;go_wp2
   go_roundw
   case rel=>exact⟨j+1,M+1,i1,L3,by omega,by go_num,by omega,d1,p8,m7,p6,KB,p7⟩
   case measure=>simp[intOf];omega
def JM(nm:List NG)(ps:List Nat)(w w':NI)(e:Ending):Prop:=
 ∃da:NH,e= .returned (.slice da (ps.map (nameOf nm)).length (ps.map (nameOf nm)).length)/\bX w' w.heap.size w'.heap.size da (ps.map (nameOf nm))/\K_ w w'
theorem Ip(w:NI)(l:NH)(n:Nat)(a:List NG)(v1 v2:NJ)(_h1c:v1.oneCell'=true)(_h2c:v2.oneCell'=true)(E:NH)(M:Nat)(ps:List Nat)(F:∀p∈ps,p<a.length)(b7:ps.length<=1000)(_hnl:a.length<=1000)(N:∀s∈a,s.size<=1048576)(O:Strs w l a)(P:sS w E ps):
  Calls prog 42 #[.agg #[.slice l a.length n,v1,v2],.slice E ps.length M] w λe w'=>JM a ps w w' e:=by
 obtain⟨Q,R,S,T,U⟩:=aU Tryz.eD;obtain⟨b,m⟩:=aj (w.alloc (.cells #[.slice l a.length n,v1,v2] 93));have q:K_ w b:=by rw[m];exact ah _ _
 have V:b.cell? ⟨w.heap.size,0,none⟩=some (.slice l a.length n):=by rw[m];exact X_ w #[.slice l a.length n,v1,v2] 93 0 _ rfl
 have W:w.heap.size<b.heap.size:=by rw[m];simp
 go_enter func42,ntmps42
 go_upto_region 1 with fail
 rw[<-m];clear m;go_wp2
 go_loopg [5,10] ps.length (λX Y Z wr=>∃(i:Nat) (c:NH) (d:Nat),Y= .slice c i d/\Z= .a (i:Int)/\i+X=ps.length/\K_ b wr/\Hid (wr.ownsRow b.heap.size 9 1 (.slice c i d) i (((ps.take i).map (nameOf a)).map Value.string)))
 case atStart=>exact⟨0,none,0,rfl,rfl,E5,K_.refl _,Nc _ _ _ _⟩
 case round=>
  obtain⟨i,c,d,rfl,rfl,hi,f,y⟩:=hrel;by_cases b8:(i:Int)<(ps.length:Int)
  .have r:i<ps.length:=E5;obtain⟨pb,po,e1,b9,a0⟩:=(P.kept (q.trans f)) i r;subst e1;obtain⟨p,h⟩:=aj (ps.getD i 0);rw[<-h] at a0;have a1:p<a.length:=F p (by rw[h];simp[List.getD,r]);obtain⟨sb,so,e2,c0,a2⟩:=(O.kept (q.trans f)) p a1;subst e2;obtain⟨s,j⟩:=aj (a.getD p ByteArray.empty);rw[<-j] at a2;have a3:Hid ((ps.take (i+1)).map (nameOf a)= (ps.take i).map (nameOf a)++ [s]):=by
    show _=_;rw[Ml r,Ny,j,h];simp[nameOf,List.getD,r]
   have d0:=(f.cell W).trans V;have c1:(p:Int)<(a.length:Int):=E5;clear h j;have z:K_ wr (wr.alloc (.cells #[.string s] 9)):=ah _ _;have G:=Kz (ak y.o z);have H:=Kz (f.trans z);have a4:b.heap.size<=(wr.alloc (.cells #[.string s] 9)).heap.size:=H.out.size;have a5:Hid (∀t u,([.string s]:List NJ)[t]? =some u->(wr.alloc (.cells #[.string s] 9)).cell? ((⟨wr.heap.size,0,none⟩:Addr).add t)=some u):=λt u v=>by rw[MZ];exact X_ wr #[.string s] 9 t u v
   have a6:Hid (∀u∈([.string s]:List NJ),u.oneCell'=true):=λu v=>by simp only[Na,Nb,or_false] at v;subst v;rfl
   clear z;go_wp2_with (at_builtin;refine wpList_append_own _ rfl (.tmp 14) (.tmp 20) 26 rfl b.heap.size 9 Q _ 1 16 underlying26 R S T U rfl E8 (.slice c i d) i (((ps.take i).map (nameOf a)).map Value.string) rfl G.o ⟨wr.heap.size,0,none⟩ 1 1 [.string s] rfl rfl a5.o a6.o F5 E5 a4 ?_;intro v' w6 A I _;have KP:=aK H.out (Me _) G.o I;have a7:=Kz A;obtain⟨a8,b0,rfl⟩:=ay A;clear A I)
   go_roundg (gk-1)
   case measure=>omega
   case rel=>exact⟨i+1,a8,b0,rfl,F3,E5,KP,Kz (by rw[a3.o,Ny];exact a7.o)⟩
  .have b1:i=ps.length:=E5;subst b1;rw[MN] at y;obtain⟨a9,c2,B,C⟩:=bK y.o;simp only[MW] at B;rw[<-B.1] at C;have J:=Kz C;obtain⟨k,x⟩:=aj (ps.map (nameOf a));have K:ps.length=k.length:=by rw[x];simp
   rw[<-x] at J;have D:=Kz x;have b2:Hid (∀s∈k,s.size<=1048576):=λs j=>by
    rw[D.o] at j;obtain⟨p,h,rfl⟩:=MH.1 j;have:=F p h;exact N _ (by rw[tO this];exact Mq this)
   have b3:Hid (Calls prog 23 #[.slice c ps.length d,.func (.func 24) #[] #[]] wr λe w'=>∃da,e= .returned (.slice da k.length k.length)/\bX w' wr.heap.size w'.heap.size da k/\K_ wr w'):=by
    show Calls _ _ _ _ _;rw[K];exact ji wr c d k E5 b2.o J.o
   clear B C x K;go_wp2_with fail
   refine b3.o.mono ?_;rintro e w5 ⟨b4,rfl,L,k5⟩;have b5:=Kz L;clear L;go_wp2
   go_ret
   refine⟨b4,by rw[D.o];rfl, ?_,(q.trans f).trans k5⟩;have b6:=b5.o;rw[<-D.o];have hz:=(q.trans f).size;exact b6.mono hz (Me _)
