import Derived.Test.YtbmhchdegdjfkaaGreatDoorKCHas
set_option maxRecDepth 100000
set_option maxHeartbeats 25600000
namespace Go.Proofs.YtbmhchdegdjfkaaGreatDoor
open Go.RowKit Go.Shelf Go.Proofs.Tryz
attribute [local go_sem] Oper.semAt_some
section
variable {Kq : List Qz} {wz w w' : KH} {bb : Nat} {a : KG} {cap : Nat} {rd : KG} {rn rc : Nat} {mb mx : Nat} {ts : List Zk} {d : KG} {dc : Nat} {f : KC -> KI} {ws : KC -> List Nat}
def IJ(Kx:Nat->Prop)(Kq:List Qz)(wz w:KH)(bb:Nat)(a:KG)(cap:Nat)(rd:KG)(rn rc:Nat)(mb:Nat)(Gl σ0:Env)(ts0:List Zk)(e:Ending)(w':KH):Prop:=
 ∃(mx:Nat) (ts:List Zk) (d:KG) (dc:Nat) (f:KC->KI) (ws:KC->List Nat) (b:Bool),e= .returned (.bool b)/\BM (bW.no wz) Kq wz w' bb a cap rd rn rc mb mx ts d dc f ws/\BS Kq ts ws/\mx+6*qV Kq ts<=9000/\(∃k,bI (Behind (W:=Kk Kq) dx Gl) (doX (Kk Kq)) σ0 (Qq (Qj ts)) k)/\(b=false->AtEnd (Behind (W:=Kk Kq) dx Gl) (Qq (Qj ts)))/\(b=true->qV Kq ts<qV Kq ts0)/\∀k,Kx k->w'.heap[k]? =w.heap[k]?/\tT w' bb mb ts f k
theorem yA(hB:BM (bW.no wz) Kq wz w bb a cap rd rn rc mb mx ts d dc f ws)(hS:BS Kq ts ws)(f0:bV (Kk Kq))(f1:∀y∈Kq,y.Fits)(c5:Kq.length<=60)(f2:fG Kq)(hN:bY wz a Kq)(f3:gH wz)
  (q:KG) (x:Nat) (c:List Q_) (f4:c.length<=1048576) (hA:cZ c) (hR:bK wz q c) (σ0:Env) (f5:∃k,bI (Behind (W:=Kk Kq) dx (Qq c)) (doX (Kk Kq)) σ0 (Qq (Qj ts)) k) (f6:mx+6*qV Kq ts<=9000) (Kx:Nat->Prop) (b0:∀k,Kx k->tT w bb mb ts f k):
  Calls prog 60 #[.pointer (some ⟨bb,0,none⟩),.agg #[.slice q c.length x,.func (.func 58) #[] #[]]] w fun e w'=>IJ Kx Kq wz w bb a cap rd rn rc mb (Qq c) σ0 ts e w':=by
 have⟨G,HS⟩:=aD hB hS;clear hB hS;refine (callsIn_wide (n:=9)).1 ?_;refine callsIn_of_wp_marks func60 rfl trivial ?_ rfl;simp only[ntmps60,List.size_toArray,JK,List.length_nil,Nat.reduceAdd,Nat.reduceSub,Array.replicate_succ,Array.replicate_zero,List.push_toArray,List.append_toArray,List.nil_append,List.cons_append]
 gi_wp2
 obtain⟨h,N⟩:∃h,((w.alloc (.cells #[.pointer (some ⟨bb,0,none⟩)] 54)).alloc (.cells #[.slice q c.length x,.func (.func 58) #[] #[]] 98)).alloc (.cells #[.bool false] 4)=h:=⟨_,rfl⟩;rw[N];have K0:K_ w h:=by rw[<-N];exact ((ag _ _).alloc _).alloc _
 have z0:h.heap.size=w.heap.size+1+1+1:=by rw[<-N];simp
 have q0:=(Ia (w:=w) (v:= .pointer (some ⟨bb,0,none⟩)) (t:=54) (w1:=h) (by rw[<-N];exact (ag _ _).alloc _)).1;have c6:=GA (w:=w.alloc (.cells #[.pointer (some ⟨bb,0,none⟩)] 54)) (v0:= .slice q c.length x) (v1:= .func (.func 58) #[] #[]) (t:=98) (w1:=h) (by rw[<-N];exact ag _ _);have c7:=Ia (w:=(w.alloc (.cells #[.pointer (some ⟨bb,0,none⟩)] 54)).alloc (.cells #[.slice q c.length x,.func (.func 58) #[] #[]] 98)) (v:= .bool false) (t:=4) (w1:=h) (by rw[<-N];exact K_.refl _);simp only[JG] at c6 c7;obtain⟨q1,q2⟩:=c6;obtain⟨q3,q4,q5⟩:=c7;have Z:=G.o.kept K0;have i3:=G.o.len c5;have i4:=G.o.kw.size;obtain⟨A,a0⟩:∃A:Nat->Prop,A=fun k=>k=w.heap.size\/k=w.heap.size+1\/d=some ⟨k,0,none⟩\/Kx k:=⟨_,rfl⟩
 obtain⟨Kc,b1⟩:∃Kc:Nat->Prop,Kc=fun k=>k=w.heap.size+1+1:=⟨_,rfl⟩
 have f7:A w.heap.size:=by rw[a0];exact .inl rfl
 have c8:A (w.heap.size+1):=by rw[a0];exact .inr (.inl rfl)
 have c9:∀g,d=some ⟨g,0,none⟩->A g:=fun g e=>by rw[a0];exact .inr (.inr (.inl e))
 have d0:∀k,Kx k->A k:=fun k e=>by rw[a0];exact .inr (.inr (.inr e))
 have a5:Kc (w.heap.size+1+1):=by rw[b1]
 have f8:¬A (w.heap.size+1+1):=by
  rw[a0];rintro (e|e|e|e)
  ·omega
  ·omega
  ·have:=(G.o.apart e).1;omega
  ·have:=(b0 _ e).1;omega
 have d1:Hid (InB h.heap.size A Kc (Fy ts) h Kq wz h bb a cap rd rn rc mb mx ts d dc f ws):=InB.start Z (fun k B=>by
   have far:w.heap.size<=k->k<h.heap.size->k<h.heap.size/\k≠bb/\k≠mb/\(∀t∈ts,k≠t.tb/\k∉t.own)/\∀s,(f s).ownBlock≠some k:=fun l m=>⟨m,G.o.far l⟩
   rw[a0,b1] at B;rcases B with (e|e|e|e) | e
   ·exact far (by omega) (by omega)
   ·exact far (by omega) (by omega)
   ·exact Z.apart e
   ·have l:=b0 k e;exact⟨by have:=l.1;omega,l.2⟩
   ·exact far (by omega) (by omega))
  (fun k B=>by rw[b1] at B;rw[B];exact⟨by omega,_,q5,by decide⟩)
  (fun p O=>by obtain⟨t,P,rfl⟩:=Ju.1 O;exact⟨t,P,rfl,rfl⟩)
 have b2:=Z.items;have i5:=G.o.row.lt;have d2:=Z.c3;have f9:=Kz Z;clear Z;refine AV (Al bb d ts.length dc (yh ts) (by omega)) rfl (enters_of func103 (by kernel_rfl) rfl) (Gz (by omega)) d2 (fun _=>rfl)
  (ApI h.heap.size A Kc h Kq wz bb a cap rd rn rc mb ts (Qq c) σ0 (w.heap.size+1+1))
  (fun _ _=>False) (fun a1=>ApI.calm a5) (fun _=>uF _) ⟨mx,ts,d,dc,f,ws,false,d1.o,HS.o,mQ.start f5,f6,q3,q4⟩
  (fun a1=>{tmps:= #[.pointer (some ⟨bb,0,none⟩),.agg #[.slice q c.length x,.func (.func 58) #[] #[]],.pointer (some ⟨w.heap.size,0,none⟩),.pointer (some ⟨w.heap.size+1,0,none⟩),.bool false,.pointer (some ⟨w.heap.size+1+1,0,none⟩),.pointer (some ⟨yh ts a1,0,none⟩),undef,undef,.pointer (some ⟨bb,0,none⟩),.func (.func 103) #[.pointer (some ⟨bb,0,none⟩)] #[],.pointer (some ⟨yh ts a1,0,none⟩),undef,undef,undef,undef,undef,undef,undef,undef,undef,undef,undef,undef,undef,undef,undef,undef,undef,undef,undef,undef,undef,undef,undef,undef],defers:=[]})
  ?assign (fun a1=>Da (fun g e=>by have:=(G.o.apart e).1;omega)) ?step ?done ?stop
 case assign=>
  intro a6 a1 W i6 hK
  gi_wp2
  exact hK
 case stop=>
  intro g0 i7 W _ Q _;exact Q.elim
 case done=>
  rintro g0 W hD ⟨C,n,R,S,T,U,H,i,r,I,J,g5,g6⟩ d3;have K:=Kz (i.calm (.deferred none) hD d3 rfl);have⟨a2,V⟩:=aD r I;clear i r I
  gi_wp2
  refine⟨by simp,.inl ⟨_,_,rfl,run_takeDeferred d3, ?_⟩⟩;refine⟨_,results_tmp rfl _ _ _,C,n,R,S,T,U,H,rfl,K.o.bm.no,a2.o,J,V.o.led,fun e=>?_,fun e=>?_,fun k B=>⟨(K.o.same k (d0 k B)).trans (K0.block k (b0 k B).1),K.o.bm.oth.apart (.inl (d0 k B))⟩⟩
  ·subst e;have X:=V.o;have g1:ts.length= (Bw ts).length:=by simp[Bw]
   rw[g1] at X;refine X.FU (fun i8 b3 L=>?_);obtain⟨g2,g3⟩:=bC L;obtain⟨t,P,rfl⟩:=Ju.1 g2;exact Ju.2 ⟨t,P,g3⟩
  ·exact V.o.yes e
 case step=>
  rintro a1 W hi ⟨C,n,R,S,T,U,H,i,r,I,J,g5,g6⟩;rcases i.sees r b2 c9 hi with⟨hv,L⟩|⟨hn,L⟩;rotate_left
  ·exact .inr ⟨hn,C,n,R,S,T,U,H,i,r,I.skip (fun Q=>L Q.1),J,g5,g6⟩
  refine .inl ⟨hv, ?_⟩;clear L hv g6 g5 J I r i H U T S R n C;clear W;rintro a6 W hv ⟨C,n,R,S,T,U,H,i,r,I,J,g5,g6⟩ hz;rcases i.sees r b2 c9 hi with⟨_,L⟩|⟨hn,_⟩;rotate_left
  ·exact (EC hv hn).elim
  obtain⟨j,t,hj,d4,e2⟩:=i.fE hi;have P:t∈n:=Jm hj;have hT:=i.bm.fE t P;have g4:=hT.row.lt;have b4:Qq (Qj n) t.r.name=some t.r:=bn i.bm.asc (JQ P);have d5:aV (Kk Kq) (Qq (Qj n)) t.r:=by
   obtain⟨b3,l,m⟩:=L;rw[<-e2,b4] at l;cases l;exact m
  have t0:W.cell? ⟨t.tb,0,none⟩=some (.string t.r.name):=hT.rng 0 _ rfl;have t5:W.cell? ⟨t.tb,5,none⟩=some (.int .i64 t.r.Zq):=hT.rng 5 _ rfl;rw[<-d4];have p0:W.cell? ⟨w.heap.size,0,none⟩=some (.pointer (some ⟨bb,0,none⟩)):=(Jl (w:=h) (i.same _ f7)).trans q0;have p1:W.cell? ⟨w.heap.size+1,0,none⟩=some (.slice q c.length x):=(Jl (w:=h) (i.same _ c8)).trans q1;have p2:W.cell? ⟨w.heap.size+1,1,none⟩=some (.func (.func 58) #[] #[]):=(Jl (w:=h) (i.same _ c8)).trans q2;have⟨K,a2,V,HJ,d6⟩:=iU i r I hj d5;have⟨a7,d7⟩:=aD b4 e2;have d8:=hR.kept i.bm.kw;clear i r I hj d5 b4 e2 hT P L hv q0 q1 q2 q3 q4 q5 b2 d1 G HS f9 d2 N d4;have hd:1<=7:=by omega
  have i9:prog.follows .mixedOrders=true:=by kernel_rfl
  gi_wp2
  rename_i Q1 K1 hK1
  have d9:∀(w2:KH) (p:Nat) (D:Bool),K_ W w2->p<=c.length->(if D then p<c.length/\Qq c t.r.name=some (c.getD p Q_.zero) else Qq c t.r.name=none)->K1 {tmps:= #[.pointer (some ⟨bb,0,none⟩),.agg #[.slice q c.length x,.func (.func 58) #[] #[]],.pointer (some ⟨w.heap.size,0,none⟩),.pointer (some ⟨w.heap.size+1,0,none⟩),.bool false,.pointer (some ⟨w.heap.size+1+1,0,none⟩),.pointer (some ⟨t.tb,0,none⟩),.int .i64 (p:Int),.bool D,.pointer (some ⟨bb,0,none⟩),.func (.func 103) #[.pointer (some ⟨bb,0,none⟩)] #[],.pointer (some ⟨t.tb,0,none⟩),.tuple #[.int .i64 (p:Int),.bool D],.agg #[.slice q c.length x,.func (.func 58) #[] #[]],.pointer (some ⟨t.tb,0,none⟩),.pointer (some ⟨t.tb,0,none⟩),.pointer (some ⟨t.tb,0,none⟩),.pointer (some ⟨t.tb,0,none⟩),.string t.r.name,.tuple #[.int .i64 (p:Int),.bool D],.int .i64 (p:Int),.bool D,undef,undef,undef,undef,undef,undef,undef,undef,undef,undef,undef,undef,undef,undef],defers:=[]} w2:=by
   intro w2 p D E O Y;apply hK1;have y1:w.heap.size<W.heap.size:=by omega
   have y2:w.heap.size+1<W.heap.size:=by omega
   have y3:w.heap.size+1+1<W.heap.size:=by omega
   have r0:=(E.cell (o:=0) y1).trans p0;have r1:=(E.cell (o:=0) y2).trans p1;have r2:=(E.cell (o:=1) y2).trans p2;have r5:=(E.cell (o:=5) g4).trans t5;have s2:=E.size;have g7:t.tb<w2.heap.size:=by omega
   have⟨a3,HP,b5,b6,Hz⟩:=iU E O g5 g6 z0;clear p0 p1 p2 t0 t5 E O g5 g6 hK1 z0;cases D with
   | false=>
    have b7:=Kz Y;clear Y
    gi_wp2
    refine⟨trivial, ?_⟩
    gi_wp2
    refine⟨ll a3.o _,C,n,R,S,T,U,H,K.o.kept a3.o,a2.o,V.o.skip (fun Q=>?_),J,(a3.o.cell y3).trans b5.o,(a3.o.rules.2 _ _ y3).trans b6.o⟩;obtain⟨_,b3,g,_,m,_⟩:=Q;rw[<-d7.o] at m;have X:=b7.o;simp only[Bool.false_eq_true,if_false] at X;rw[X] at m;cases m
   | true=>
    simp only[if_true] at Y;obtain⟨g8,e0⟩:=Y;obtain⟨b,o,xa,xc,g9,j0,M,j1,_⟩:=(d8.kept a3.o) p g8;subst g9;generalize c.getD p Q_.zero=e1 at *;have e3:=Kz e0;have e4:=M 0 _ rfl;have c1:=M 1 _ rfl;have c2:=M 2 _ rfl;have c3:=M 3 _ rfl;have c4:=M 4 _ rfl;have h0:=M 5 _ rfl;have h1:=M 6 _ rfl;simp only[JM] at e4;clear M e0
    gi_wp2_with fail
    refine⟨trivial,(CallsIn.inRound a6 (callsIn_wide.2 (B_ w2 t.tb t.r e1 xa xc g7 r5))).mono ?_⟩;rintro e w3 ⟨b8,k3⟩;have F:=Kz (a3.o.trans k3);have v0:=(k3.cell (o:=0) (by omega)).trans r0;clear e4 c1 c2 c3 c4 h0 h1 r0 r1 r2 r5;rcases b8.cases with⟨rfl,a4⟩|⟨rfl,a4⟩
    ·have a8:Hid (Behind (W:=Kk Kq) dx (Qq c) (Qq (Qj n)) t.r.name):=⟨⟨t.r,a7.o,d6.o⟩,t.r,e1,a7.o,e3.o,a4⟩;clear a4 b8
     gi_wp2_with fail
     refine⟨trivial,(CallsIn.inRound a6 (callsIn_wide.2 (yR (K.o.kept F.o).told a2.o HJ.o d6.o f0 f1 c5 f2 hN (by omega) f3))).mono ?_⟩;rintro e w4 ⟨rfl,e5,h2,h3,h4,h5,e6,e7,b9⟩;obtain⟨e8,e9,a9⟩:=(K.o.kept F.o).did e6;have hw:=a2.o.good.wf;have h6:=(lF hw a8.o.1 (Kq.map (·.name))).2 (nZ (hw _ _ a7.o).web);have h7:C+6+6*qV Kq e5<=9000:=by
      unfold qV at J⊢;rw[b9];omega
     have c0:=V.o.did hw a8.o;rw[<-b9] at c0;have u0:w4.cell? ⟨w.heap.size+1+1,0,none⟩=some (.bool H):=(Jl (w:=w3) (a9 _ a5)).trans ((F.o.cell y3).trans b5.o);have u1:w4.frozen? ⟨w.heap.size+1+1,0,none⟩=false:=(World.frozen?_of_block (w:=w3) (a9 _ a5)).trans ((F.o.rules.2 _ _ y3).trans b6.o);have⟨h8,h9,i0,i1,j2⟩:=iU e8 e7 c0 e9 a9;clear e6 b9 e8 e7 c0 e9 a9 h6 v0 k3
     gi_wp2
     refine⟨((ll F.o _).trans i1.o).trans ((KeepsOthers.setCell _ _ _).from _),C+6,e5,h2,h3,h4,h5,true,h8.o.store (p:=⟨w.heap.size+1+1,0,none⟩) a5 f8 _,h9.o,i0.o,h7,JZ _ _ _ u0, ?_⟩;rw[World.frozen?_setCell];exact u1
    ·have a8:=Kz a4;clear a4 b8 k3
     gi_wp2
     refine⟨ll F.o _,C,n,R,S,T,U,H,K.o.kept F.o,a2.o,V.o.skip (fun Q=>?_),J,(F.o.cell y3).trans b5.o,(F.o.rules.2 _ _ y3).trans b6.o⟩;obtain⟨_,b3,g,l,m,X⟩:=Q;rw[<-d7.o] at l m;rw[a7.o] at l;rw[e3.o] at m;cases l;cases m;exact a8.o X
  have i2:=Kz d9;clear d9
  gi_region_with_o (refine⟨trivial, ?_⟩;gi_at_call 104;refine (CallsIn.inRound a6 (callsIn_wide.2 (Dh _ q x c t.r.name f4 hA (d8.kept (aG W))))).mono ?_;rintro e w2 ⟨⟨p,D,rfl,O,Y⟩,E⟩;have HP:=Kz O;have b7:=Kz Y;clear O Y)
  all_goals exact i2.o _ p D ((K_.refl W).drew.trans E) HP.o b7.o
end
