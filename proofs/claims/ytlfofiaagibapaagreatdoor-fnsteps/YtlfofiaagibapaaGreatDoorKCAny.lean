import Derived.Test.YtlfofiaagibapaaGreatDoorKBRangeC
set_option maxRecDepth 100000
set_option maxHeartbeats 25600000
namespace Go.Proofs.YtlfofiaagibapaaGreatDoor
open Go.RowKit Go.Proofs.Tryz
def Jo(Kj:List NL)(T:List Q_)(w w':NN)(e:Ending):Prop:=∃ra ds mid,e=.returned (.agg #[.slice ra Kj.length Kj.length,.slice ds T.length T.length])/\cB w' w.heap.size mid ra Kj/\gM w' mid w'.heap.size ds T/\w.heap.size<=mid/\mid<=w'.heap.size/\K_ w w'
structure StI (w1 wr:NN)(ra:NM)(n:Nat)(ds:NM)(k dcs:Nat)(xs:List NP):Prop where
 kw:K_ w1 wr
 row:ay wr w1.heap.size 43 2
 c0:wr.cell? ⟨w1.heap.size,0,none⟩=some (.slice ra n n)
 c1:wr.cell? ⟨w1.heap.size,1,none⟩=some (.slice ds k dcs)
 own:wr.ownsRow (w1.heap.size+1) 48 7 (.slice ds k dcs) k xs
section
variable {G:cZ}{Kq:List Qz}{wz w w':NN}{bb:Nat}{a:NM}{cap:Nat}{rd:NM}{rc:Nat}{mb mx:Nat}{ts:List Zk}{d:NM}{dc:Nat}{f:NL -> NP}{ws:NL -> List Nat}
theorem jM(Kj:List NL)(F:BM G Kq wz w bb a cap rd Kj.length rc mb mx ts d dc f ws)(d2:Kj.length<=1048576)(d3:∀s∈Kj,s.size<=1048576)(g4:ts.length<=60)(d4:∀t∈ts,t.r.name.size<=1048576/\t.r.text.size<=1048576/\t.r.texts.length<=1048576/\∀x∈t.r.texts,x.size<=1048576)(hR:Strs w rd Kj):Calls prog 47 #[.c bb] w λe w'=>Jo Kj (Qj ts) w w' e:=by
 have d5:=F.c2;have b1:=F.c3;have zk:=F.row.lt;have O:=Kz F;let⟨d6,d7,d8,d9,e1⟩:=info_parts Tryz.Dc;clear F;go_enter func47,ntmps47
 go_wp2_with fail
 refine (lN _ rd rc Kj d2 d3 (hR.kept (ah _ _))).mono ?_;rintro e c ⟨n,rfl,Z,P⟩;have K1:K_ w c:=K_.trans (ah _ _) P;have z1:=P.size;simp only[MZ] at z1 Z;have e2:Hid (ay c w.heap.size 43 2):=ay.kept (ay.made w #[M3,M3] 43) P;have q3:=(K1.cell zk).trans b1;have e3:=Kz Z;have g5:bb<c.heap.size:=E5;clear Z P d5 b1;go_wp2
 have KA:K_ c (c.alloc (.cells #[.slice n Kj.length Kj.length,M3] 43)):=ah _ _;have b2:Hid (StI c (c.alloc (.cells #[.slice n Kj.length Kj.length,M3] 43)) n Kj.length none 0 0 []):=by
  have hc:=X_ c #[.slice n Kj.length Kj.length,M3] 43;exact⟨KA,ay.made c #[.slice n Kj.length Kj.length,M3] 43,hc 0 _ rfl,hc 1 _ rfl,Nj _ _ _ _⟩
 clear q3 KA;go_loopw [18] (λa0 wr=>∃k:Nat,k<=ts.length/\a0=.a k/\Hid (∃(v:NM)(A:Nat)(H:List NP),StI c wr n Kj.length v k A H/\bI c (λ_=>True) H ((Qj ts).take k))) (λa0 _=>ts.length-(intOf a0).toNat)
 case atStart=>exact⟨0,Ml _,rfl,Kz ⟨none,0,[],b2.o,bI.nil _ _⟩⟩
 case round=>
  obtain⟨k,hk,rfl,b3⟩:=hrel;let⟨v,A,H,b4,b5⟩:=b3.o;have⟨h,Q⟩:=aH b4 b5;clear b4 b5 b3;have Kr:=K1.trans h.o.kw;have zr:=h.o.kw.size;have a1:=h.o.row.lt;clear b2;by_cases I:k<ts.length
  .obtain⟨g,e4,e5⟩:=(O.o.kept Kr).item I;subst e4;have hT:=(O.o.kept Kr).eZ ts[k] (Mw I);have b6:=(O.o.kept K1).eZ ts[k] (Mw I);have e6:=(O.o.eZ ts[k] (Mw I)).row.lt;let⟨j,l,a2⟩:=aF hT.txt;have a3:Strs c j ts[k].r.texts/\(j=none->l=0):=by
    have J:=b6.txt;let⟨g7,c9,e9,h9⟩:=bO J;rw[a2] at J e9;simp only[Nb,true_and] at e9;rw[<-e9.1] at h9;exact⟨h9,(mi J).2.1⟩
   have b7:Hid ((Qj ts).take (k+1)= (Qj ts).take k++[ts[k].r]):=by
    show (Qj ts).take (k+1)= (Qj ts).take k++[ts[k].r];rw[Ms (by simpa[Qj] using I)];simp[Qj]
   have q:wr.rangeAt ts[k].tb 0 (ts[k].r.cells j l):=λR e7 hv=>hT.rng R e7 (by
    have e0:ts[k].cells=ts[k].r.cells j l++[.a ts[k].cost,.slice ts[k].sa ts[k].steps.length ts[k].sc,.a (ts[k].op:Int),ts[k].qv,.string ts[k].bl]:=by
     unfold Zk.cells Q_.cells;rw[a2]
     rfl
    rw[e0];have f0:=(Mr.1 hv).1;rw[Np f0];exact hv)
   let⟨i,b8⟩:=aj (ts[k].tb);let⟨r,hr⟩:=aj (ts[k].r);rw[<-b8] at e5 q e6;rw[<-hr] at q a3 b7;have b9:=Kz a3;have t0:=q 0 _ rfl;have t1:=q 1 _ rfl;have t2:=q 2 _ rfl;have t3:=q 3 _ rfl;have t4:=q 4 _ rfl;have t5:=q 5 _ rfl;have t6:=q 6 _ rfl;simp only[MR] at t0 t1 t2 t3 t4 t5 t6;have m1:=h.o.c1;have g8:i<c.heap.size:=E5;clear hT b6 a2 a3 q hr b8;have g9:(k:Int)<(ts.length:Int):=E5;have T:Hid (∀w':NN,(∀b,b<=c.heap.size->w'.heap[b]? =wr.heap[b]?)->(λw'=>M4 w' c.heap.size 1 (.slice v k A)/\M4 w' i 0 (.string r.name)/\M4 w' i 1 (.bool r.over)/\M4 w' i 2 (.bool r.fail)/\M4 w' i 3 (.string r.text)/\M4 w' i 4 (.a r.at')/\M4 w' i 5 (.a r.Zq)/\M4 w' i 6 (.slice j r.texts.length l)) w'):=λw' y=>⟨(MC (w:=wr) (y c.heap.size (Mj _))).trans m1,(MC (w:=wr) (y i E5)).trans t0,(MC (w:=wr) (y i E5)).trans t1,(MC (w:=wr) (y i E5)).trans t2,(MC (w:=wr) (y i E5)).trans t3,(MC (w:=wr) (y i E5)).trans t4,(MC (w:=wr) (y i E5)).trans t5,(MC (w:=wr) (y i E5)).trans t6⟩
   have h0:c.heap.size<wr.heap.size:=a1;go_upto_region 5 with fail
   refine ik 9 T.o (λ_ _=>rfl) λB=>?_;have KD:=aY wr;generalize f1:wr.drew=C at B KD⊢;clear f1;refine ak 0 B ?_;refine ae 4 B ?_;refine ae 5 B ?_;refine ai 6 λK z=>?_;go_simp
   have U:K_ C (C.alloc (.cells #[.string r.name,.bool r.over,.bool r.fail,.string r.text,.a r.at',.a r.Zq,.slice j r.texts.length l] 48)):=ah _ _;have a4:=X_ C #[.string r.name,.bool r.over,.bool r.fail,.string r.text,.a r.at',.a r.Zq,.slice j r.texts.length l] 48;have L:=KD.trans U;have a5:∀b,b<=c.heap.size->(C.alloc (.cells #[.string r.name,.bool r.over,.bool r.fail,.string r.text,.a r.at',.a r.Zq,.slice j r.texts.length l] 48)).heap[b]? =wr.heap[b]? :=λb hb=>L.block b E5
   refine z.out _ _ (λ_=>T.o _ a5) ?_;clear z K B;let⟨eb,c4⟩:=aj C.heap.size;rw[<-c4] at a4⊢;generalize f2:C.alloc (.cells #[.string r.name,.bool r.over,.bool r.fail,.string r.text,.a r.at',.a r.Zq,.slice j r.texts.length l] 48)=w6 at a4 L a5⊢;clear f2 U c4;have c5:=Kz ((But.ax (S:=λ_=>False) L).owns h.o.own λ_ _=>id);have h1:=L.size;try simp only[upP]
   refine ai 7 λK z=>?_;refine step_append_lies _ rfl (.tmp 23) (.tmp 28) 41 rfl (c.heap.size+1) 48 d6 _ 7 80 underlying41 d7 d8 d9 e1 rfl E8 (.slice v k A) k H F9 c5.o ⟨eb,0,none⟩ 1 1 (r.cells j l) F9 rfl (λR u hu=>by rw[Nf];exact a4 R u hu) (Q_.one r j l) E5 F5 E5 E5 _ rfl ?_;intro g6 a6 M a7 c6 f3 h2;have c7:∀b,(Value.slice v k A).ownBlock=some b->c.heap.size+1<=b:=λb e=>(c5.o.lt b e).1
   have a9:But (λb=>(Value.slice v k A).ownBlock=some b) w6 M:=But.aI c6 λb e=>e;have V:∀b,b<=c.heap.size->M.heap[b]? =wr.heap[b]? :=λb hb=>(a9.block b E5 λe=>by have:=c7 b e;omega).trans (a5 b hb)
   have W:ay M c.heap.size 43 2:=h.o.row.block (V _ (Mj _));let⟨⟨_,f4⟩,f5⟩:=W.row.at (i:=1) E5;have h3:=a9.size;have f6:Hid (StI c (M.setCell ⟨c.heap.size,1,none⟩ (.b g6 (k+1) a6)) n Kj.length (some ⟨g6,0,none⟩) (k+1) a6 (H++r.cells j l)):=by
    refine⟨(a9.kept (h.o.kw.trans L) λb e=>by have:=c7 b e;omega).setCell (Mj _) _,W.set _,?_,aR W.row E5 _,?_⟩
    .rw[Xk E5];exact (MC (w:=wr) (V _ (Mj _))).trans h.o.c0
    .exact (But.set (S:=λb=>b=c.heap.size) (But.ax (K_.refl M)) (p:=⟨c.heap.size,1,none⟩) rfl _).owns a7 (λb e h4=>by have:=(a7.lt b e).1;omega)
   refine af z (λ_=>T.o _ V) ?_;clear z K a7 c6 f3 W;have B:=T.o _ V;refine ae 8 B ?_;refine ai 9 λK z=>?_;go_simp
   refine af z (λJ=>NB rfl J) ?_;clear z K;refine aC ?_;go_wp2
   go_roundw
   case rel=>exact⟨k+1,E5,F3,Kz ⟨_,a6,_,f6.o,by rw[b7.o];exact Q.o.snoc b9.o.1 b9.o.2 λ_ _=>trivial⟩⟩
   case measure=>simp[intOf];omega
  .have f7:k=ts.length:=E5;subst f7;have X:Hid ((Qj ts).length=ts.length):=by show (Qj ts).length=ts.length;simp[Qj]
   have c8:(Qj ts).take ts.length=Qj ts:=MU (by rw[X.o];exact Mj _);rw[c8] at Q;have f8:Hid (bN wr v (Qj ts)):=by
    let⟨_,a8,h5,e8,h8⟩:=bI.runs h.o.own Q.o h.o.kw;simp only[Nb] at e8;rw[<-e8.1] at h8;exact h8.runs
   have f9:Hid (∀s∈Qj ts,s.name.size<=1048576/\s.text.size<=1048576/\s.texts.length<=1048576/\∀x∈s.texts,x.size<=1048576):=λs hs=>by
    obtain⟨t,ht,rfl⟩:=MM.1 hs;exact d4 t ht
   have m0:=h.o.c0;have m1:=h.o.c1;clear c8 Q;go_wp2_with fail
   have b0:=AQ wr v A (Qj ts) (by rw[X.o];omega) f9.o f8.o;rw[X.o] at b0;refine b0.mono ?_;clear b0;rintro e N ⟨D,rfl,d0,E⟩;have d1:=h.o.row.kept E;have n0:=(E.cell a1).trans m0;let⟨⟨_,f4⟩,f5⟩:=d1.row.at (i:=1) E5;have Y:=(e2.o.kept h.o.kw).kept E;let⟨⟨_,fa⟩,fb⟩:=Y.row.at (i:=0) E5;let⟨⟨_,fc⟩,fd⟩:=Y.row.at (i:=1) E5;have z5:=E.size;have⟨g0,g1⟩:=aH Y d0;have U:=Kr.trans E;have g2:=Kz ((e3.o.same (h.o.kw.same _ _)).same (E.same _ _));have h6:¬c.heap.size=w.heap.size:=E5;clear Y d1 d0 m0 m1;go_wp2
   have hX:Row (N.setCell ⟨c.heap.size,1,none⟩ (.slice D ts.length ts.length)) w.heap.size 2:=(g0.o.block (Below.heap_setCell _ _ _ _ F6)).row;have g3:=Mo _ w.heap.size 0 [.slice n Kj.length Kj.length,.slice D ts.length ts.length] (hX.there (o:=0) (m:=2) (Mj _));refine Zx [.slice n Kj.length Kj.length,.slice D ts.length ts.length] _ results47 rfl g3 underlying43 rfl Tryz.lF rfl ⟨n,D,wr.heap.size,by rw[X.o],?_,?_,E5,by simp only[size_setCell];exact z5,?_⟩
   .refine cB.mono (lo:=w.heap.size+1) (hi:=c.heap.size) ?_ E5 E5;exact ((g2.o.same (Same.setCell _ (.inr E9) _)).same (Same.setCell _ (.inl E9) _)).same (Same.setCell _ (.inl E9) _)
   .have hz:((((N.setCell ⟨c.heap.size,1,none⟩ (.slice D ts.length ts.length)).setCell ⟨w.heap.size,0,none⟩ (.slice n Kj.length Kj.length)).setCell ⟨w.heap.size,1,none⟩ (.slice D ts.length ts.length))).heap.size=N.heap.size:=by simp only[size_setCell]
    refine gM.mono (lo:=wr.heap.size) (hi:=N.heap.size) ?_ (Mj _) (MN hz.symm);exact ((g1.o.same (Same.setCell _ (.inl a1) _)).same (Same.setCell _ (.inl F6) _)).same (Same.setCell _ (.inl F6) _)
   .exact ((U.setCell F6 _).setCell (Mj _) _).setCell (Mj _) _
end
open Go.RowKit Go.Shelf
attribute [local go_sem] Oper.semAt_some
def RdI(w1:NN)(c:Nat)(Kq:List Qz)(σ:Env)(rs:List Q_)(i:Nat)(W:NN):Prop:=K_ w1 W/\c<W.heap.size/\∃(ns:List NL)(v:NP),W.cell? ⟨c,0,none⟩=some v/\W.frozen? ⟨c,0,none⟩=false/\W.ownsRow (c+1) 9 1 v ns.length (ns.map Value.string)/\dA (Kk Kq) σ (rs.take i) ns
theorem RdI.calm{w1:NN}{c:Nat}{Kq:List Qz}{σ:Env}{r:List Q_}{i B:Nat}(x:w1.heap.size<=c)(y:c<B):Calm B (RdI w1 c Kq σ r i):=by
 constructor
 .rintro W o z ⟨k,a,h,v,j,m,d,n⟩;have f:=(K_.refl W).alloc o;exact⟨k.trans f,by rw[MZ];omega,h,v,(f.cell a).trans j,(f.rules.2 c 0 a).trans m,(But.ax (S:=λ_=>False) f).owns d λ_ _=>id,n⟩
 .rintro W l o p A s t ⟨k,a,h,v,j,m,d,n⟩;have q:But (λb=>b=l) W (W.putObj l p):=⟨rfl,rfl,rfl,G7,λb _ e=>World.putObj_heap_other e⟩;refine⟨q.kept k (λb e=>by rw[e];omega),by rw[World.putObj_size];exact a,h,v,(gU p E5).trans j,(rJ p E5).trans m,q.owns d λb w e=>?_,n⟩;have:=iG (Y_ d w) (by rw[e];exact s);rw[t] at this;cases this
def LY(Kq:List Qz)(Kj:List NL)(sl:List Q_)(w w':NN)(e:Ending):Prop:=∃(da:NM)(ns:List NL),e=.returned (.slice da ns.length ns.length)/\cB w' w.heap.size w'.heap.size da ns/\((bR Kq Kj sl/\dA (Kk Kq) (Qq sl) sl ns)\/(¬bR Kq Kj sl/\ns=[]))/\K_ w w'
theorem Cm{Kq:List Qz}{σ:Env}{l:List Q_}{a:List NL}(b:bH (Kk Kq))(c:∀r∈l,r.Good Kq)(h:dA (Kk Kq) σ l a):∀s∈a,s.size<=1048576:=λs d=>by
 obtain⟨r,e,rfl,_⟩:=(h.mem s).1 d;let⟨A,f,_⟩:=(c r e).act;have:=(b _ _ f).2.2.1;omega
theorem yR(w:NN)(a:NM)(cap:Nat)(Kq:List Qz)(rd:NM)(rc:Nat)(Kj:List NL)(J:NM)(Q:Nat)(j:List Q_)(hl:Kq.length<=1048576)(hf:∀s∈Kq,s.Fits)(d3:Kj.length<=maxLen)(d4:Kj.length<=rc)(d5:∀s∈Kj,s.size<=maxLen)(d6:j.length<=1048576)(d7:∀r∈j,r.texts.length<=1048576)(hS:bQ w a Kq)(hR:Strs w rd Kj)(hG:bN w J j)(d8:fU w):Calls prog 23 #[.agg #[.slice a Kq.length cap],.agg #[.slice rd Kj.length rc,.slice J j.length Q]] w λe w'=>LY Kq Kj j w w' e:=by
 have H:K_ w ((w.alloc (.cells #[.slice a Kq.length cap] 25)).alloc (.cells #[.slice rd Kj.length rc,.slice J j.length Q] 43)):=(ah _ _).alloc _;refine (callsIn_wide (n:=9)).1 ?_;refine callsIn_of_wp_marks func23 rfl trivial ?_ rfl;simp only[ntmps23,List.size_toArray,Nc,List.length_nil,Nat.reduceAdd,Nat.reduceSub,Array.replicate_succ,Array.replicate_zero,List.push_toArray,List.append_toArray,List.nil_append,List.cons_append]
 gi_wp2_with fail
 refine⟨trivial,(callsIn_wide.2 (kK _ a cap Kq rd rc Kj J Q j hl hf d3 d4 d5 d6 d7 (hS.kept H) (hR.kept H) (hG.kept H) (d8.kept H))).mono ?_⟩;rintro e b ⟨k1,d9⟩;have X:=H.trans k1;rcases d9 with⟨b1,rfl⟩|⟨hW,b2,hA,wz,I,mb,mx,d,e0,dc,g3,ws,f,rfl,kz,hB,a3,g4,Y,b3,b4⟩
 .have e1:=Kz b1;clear b1 k1 H
  gi_wp2_with fail
  exact⟨_,results_tmp rfl _ _ _,none,[],rfl,.inl rfl,.inr ⟨λh=>e1.o ⟨h.1,h.2.1,h.2.2.2.good.asc⟩,rfl⟩,X⟩
 have HV:=Kz (Y.trans (mV hW b2 a3 b3 b4));have⟨b5,E,e2,HW⟩:=nC Y hB a3 hW;clear b2 hA kz Y b3 b4 k1 H hB a3 hW;cases f
 .gi_wp2_with fail
  exact⟨_,results_tmp rfl _ _ _,none,[],rfl,.inl rfl,.inr ⟨λh=>(by have F:=HV.o.2 h;cases F),rfl⟩,X⟩
 have b6:Hid (Qj d=j):=b5.o.1 rfl;have b7:Hid (bR Kq Kj j):=HV.o.1 rfl;clear b5 HV
 gi_wp2_with fail
 obtain⟨L,R⟩:∃L,b.alloc (.cells #[M3] 26)=L:=⟨_,rfl⟩;rw[R];have K0:K_ b L:=by rw[<-R];exact ah _ _
 have z0:L.heap.size=b.heap.size+1:=by rw[<-R];simp
 let⟨q0,q1,_⟩:=xx (w:=b) (v:= M3) (t:=26) (w1:=L) (by rw[R];exact K_.refl _);have g5:=E.o.len (gy HW.o);have g6:=E.o.row.lt;have zw:=E.o.kw.size;have b8:=(E.o.kept K0).c3;refine nW (mf I e0 d.length dc (ig d) E5) rfl (enters_of func71 F4 rfl) (vL E5) b8 (λ_=>rfl)
  (RdI b b.heap.size Kq (Qq (Qj d)) (Qj d)) (λ_ _=>False) (λi=>RdI.calm (Mj _) E5) (λ_=>rH _)
  ⟨K0,E5,[],M3,q0,q1,Nj _ _ _ _,dA.nil⟩
  (λi=>{tmps:= #[.agg #[.slice a Kq.length cap],.agg #[.slice rd Kj.length rc,.slice J j.length Q],.c w.heap.size,.c (w.heap.size+1),M3,.c I,.bool true,.c b.heap.size,.c (ig d i),.tuple #[.c I,.bool true],.agg #[.slice a Kq.length cap],.agg #[.slice rd Kj.length rc,.slice J j.length Q],.tuple #[.c I,.bool true],.c I,.bool true,.bool true,.bool false,.c I,.func (.func 71) #[.c I] #[],.c (ig d i),undef,undef,undef,undef,undef,undef,undef,undef,undef,undef],defers:=[]}) ?assign (λi=>qp λg e=>by have:=(E.o.apart e).1;omega) ?step ?done ?stop
 case assign=>
  intro l i W K x
  gi_wp2
  exact x
 case stop=>
  intro D g7 W _ h _;exact h.elim
 case step=>
  rintro i W M ⟨k,N,c,v,O,F,y,m⟩;have a4:(Qj d).take (i+1)= (Qj d).take i++[d[i].r]:=by
   rw[Ms (by simpa[Qj] using M)];simp[Qj]
  rcases (E.o.kept k).sees e2.o M with⟨hv,Z⟩|⟨T,Z⟩;rotate_left
  .exact .inr ⟨T,k,N,c,v,O,F,y,by rw[a4];exact m.no Z⟩
  refine .inl ⟨hv,?_⟩;have⟨HR,e3⟩:=aH Z a4;clear hv Z a4 m y F O v c N k;clear W;rintro l W _ ⟨k,N,c,v,O,F,y,m⟩ g8;have hT:=(E.o.kept k).eZ d[i] (Mw M);have t0:M4 W (ig d i) 0 (.string d[i].r.name):=by
   have h:=hT.rng 0 _ rfl;simpa[ig,List.getD,M] using h
  have e4:ig d i<b.heap.size:=by
   have h:=(E.o.eZ d[i] (Mw M)).row.lt;simpa[ig,List.getD,M] using h
  have e5:c.length<=60:=by
   have:=m.len;simp only[ML] at this;omega
  obtain⟨z,A,rfl⟩:=aF y;let⟨n,T⟩:=aj (d[i].r.name);let⟨tb,a0⟩:=aj (ig d i);rw[<-T,<-a0] at t0;rw[<-a0] at e4;rw[<-a0];have⟨H3,H4,HN⟩:=di y m T;clear hT y m T a0 q0 q1 b8 R;let⟨ic,e6,e7,e8,e9⟩:=info_parts Tryz.Bp;have g9:b.heap.size+1<=W.heap.size:=E5
  gi_wp2
  have a1:Hid (∀w',K_ W w'->(λw'=>M4 w' b.heap.size 0 (.slice z c.length A)/\M4 w' tb 0 (.string n)) w'):=λw' kk=>⟨(kk.cell N).trans O,(kk.cell E5).trans t0⟩
  refine Az F4 F4 (λ⟨_,_,h⟩=>h) (λw'=>M4 w' b.heap.size 0 (.slice z c.length A)/\M4 w' tb 0 (.string n)) 8 (a1.o _ (aY W)) λU=>?_;have KD:=aY W;have a5:Hid (KeepsOthers W W.drew):=KeepsOthers.drew W;generalize f0:W.drew=B at U KD a5⊢;clear f0;refine ak 0 U ?_;refine ae 4 U ?_;refine ae 5 U ?_;refine ai 6 λK x=>?_;go_simp
  have K5:K_ B (B.alloc (.cells #[.string n] 9)):=ah _ _;have a6:M4 (B.alloc (.cells #[.string n] 9)) B.heap.size 0 (.string n):=X_ B #[.string n] 9 0 _ rfl;have KE:KeepsOthers B (B.alloc (.cells #[.string n] 9)):=KeepsOthers.alloc _ _;have G:=KD.trans K5;have b9:=Kz (a5.o.trans KE);refine x.out _ _ (λ_=>a1.o _ G) ?_;clear x K U KE a5;let⟨eb,c0⟩:=aj B.heap.size;rw[<-c0] at a6⊢;generalize f1:B.alloc (.cells #[.string n] 9)=w6 at a6 G b9⊢;clear f1 K5 c0;have a7:=Kz ((But.ax (S:=λ_=>False) G).owns H3.o λ_ _=>id);have h0:=G.size;try simp only[upP]
  refine ai 7 λK x=>?_;refine step_append_lies _ rfl (.tmp 20) (.tmp 26) 26 rfl (b.heap.size+1) 9 ic _ 1 16 underlying26 e6 e7 e8 e9 rfl E8 (.slice z c.length A) c.length (c.map Value.string) rfl a7.o ⟨eb,0,none⟩ 1 1 [.string n] rfl rfl (λc1 u C=>?_) (λu C=>?_) E8 F5 E5 E5 w6.heap.size rfl ?_
  .match c1,C with
   |0,C=>simp at C;subst C;rw[Nf];exact a6
   |c1+1,C=>simp at C
  .simp at C;subst C;rfl
  intro g gq q c2 a8 f2 h1;have a2:∀f,(Value.slice z c.length A).ownBlock=some f->b.heap.size+1<=f:=λf e=>(a7.o.lt f e).1
  have V:But (λf=>(Value.slice z c.length A).ownBlock=some f) w6 q:=But.aI a8 λf e=>e;have c4:b.heap.size<w6.heap.size:=E5;have a9:(λw'=>M4 w' b.heap.size 0 (.slice z c.length A)/\M4 w' tb 0 (.string n)) q:=⟨(V.cell c4 λe=>by have:=a2 _ e;omega).trans (a1.o _ G).1,(V.cell E5 λe=>by have:=a2 _ e;omega).trans (a1.o _ G).2⟩;have c5:Hid (q.frozen? ⟨b.heap.size,0,none⟩=false):=(World.frozen?_of_block (w:=w6) (a:=⟨b.heap.size,0,none⟩) (V.block b.heap.size c4 λe=>by have:=a2 _ e;omega)).trans ((G.rules.2 _ _ N).trans F);have f3:K_ b q:=V.kept (k.trans G) (λf e=>by have:=a2 f e;omega);have f4:Hid (KeepsOthers W q):=b9.o.trans (KeepsOthers.of_grownBy a8 λf o e ho=>iG (Y_ a7.o e) ho);have c6:Hid (q.ownsRow (b.heap.size+1) 9 1 (.b g (c.length+1) gq) (c++[n]).length ((c++[n]).map Value.string)):=by rw[M_,ND];exact c2
  refine af x (λ_=>a9) ?_;clear x K c2 a8 f2;have g1:=a9.1;have g2:=c5.o;have f5:Hid (KeepsFrom L.heap.size W (q.setCell ⟨b.heap.size,0,none⟩ (.b g (c.length+1) gq))):=(f4.o.trans (KeepsOthers.setCell _ _ _)).from _
  have b0:Hid (RdI b b.heap.size Kq (Qq (Qj d)) (Qj d) (i+1) (q.setCell ⟨b.heap.size,0,none⟩ (.b g (c.length+1) gq))):=by
   have f6:b.heap.size<q.heap.size:=by have:=V.size;omega
   refine⟨f3.setCell (Mj _) _,by rw[size_setCell];exact f6,c++[n],_,Ns _ _ _ a9.1,by rw[World.frozen?_setCell];exact c5.o,?_,?_⟩
   .exact (But.set (S:=λf=>f=b.heap.size) (But.ax (K_.refl q)) (p:=⟨b.heap.size,0,none⟩) rfl _).owns c6.o (λf e h2=>by have:=(c6.o.lt f e).1;omega)
   .rw[e3.o,HN.o];exact H4.o.yes HR.o
  refine ai 8 λK x=>?_;go_simp
  refine af x (λh=>NB rfl h) ?_;clear x K;refine aC ?_;refine⟨f5.o,b0.o⟩
 case done=>
  rintro D W hD ⟨k,N,c,v,O,F,y,m⟩ c7;let⟨z,A,f7,c8⟩:=bO y;subst f7;have c9:(Qj d).take d.length=Qj d:=MU (by simp[Qj]);rw[c9,b6.o] at m;have e5:c.length<=60:=by
   have h3:=m.len;have h4:j.length=d.length:=by rw[<-b6.o];simp[Qj]
   omega
  have d0:=Kz (Cm (bV HW.o) b7.o.2.2.2.good.good m);have⟨d1,H4⟩:=aH c8 m;have KW:=X.trans k;clear y m c8 F c9
  gi_wp2_with fail
  refine⟨trivial,(callsIn_wide.2 (lN W z A c E5 d0.o d1.o)).mono ?_⟩;rintro e P ⟨da,rfl,d2,k9⟩;have f8:=aM c7;have f9:=(k9.block D f8).trans c7;have g0:w.heap.size<=D:=by have:=X.size;omega
  have b0:Hid (cB (P.putObj D (.deferred none)) w.heap.size (P.putObj D (.deferred none)).heap.size da c/\((bR Kq Kj j/\dA (Kk Kq) (Qq j) j c)\/(¬bR Kq Kj j/\c=[]))/\K_ w (P.putObj D (.deferred none))):=by
   have kb:But (λf=>f=D) P (P.putObj D (.deferred none)):=⟨rfl,rfl,rfl,G7,λf _ e=>World.putObj_heap_other e⟩;refine⟨?_,.inl ⟨b7.o,H4.o⟩,kb.kept (KW.trans k9) λf e=>by rw[e];exact g0⟩;refine (d2.same (w':=P.putObj D (.deferred none)) λf Y _ _=>World.putObj_heap_other E5).mono (by have:=KW.size;omega) G7
  clear d2 KW H4 d1 d0 O
  gi_wp2
  exact⟨E9,.inl ⟨_,_,rfl,run_takeDeferred f9,_,results_tmp rfl _ _ _,da,c,rfl,b0.o⟩⟩
attribute [local go_sem] Oper.semAt_some
theorem jv{P:Program}{e:Func}{c:Array NP}{w:NN}{p:Tmp}{a:TypeId}{b:Nat}(cs:List NP)(d:TypeDesc)(h:e.results= #[.cell p a])(f:c.getD p undef=.c b)(i:w.rangeAt b 0 cs)(j:P.underlying a=some d)(k:d.isRow=true)(hi:(P.info? a).map (·.size)=some cs.length):(results e c).run P w=.ok (.agg cs.toArray) w:=by
 have l:c[p]?.getD undef=.c b:=by simpa using f
 simp only[results,h];simp[l,asAddr,run_loadVar_mid w b 0 a cs d i j k hi]
def Lb(Kq:List Qz)(Kj:List NL)(sl:List Q_)(name:NL)(w w':NN)(e:Ending):Prop:=(bR Kq Kj sl/\∃T,IV Kq sl name T/\Jo Kj T w w' e)\/(¬bR Kq Kj sl/\e=.returned (.agg #[M3,M3])/\K_ w w')
theorem Ch{w:NN}{b:Nat}{t:TypeId}{v0 v1:NP}(h:ay w b t 2):((w.setCell ⟨b,0,none⟩ v0).setCell ⟨b,1,none⟩ v1).rangeAt b 0 [v0,v1]:=by
 intro j v a;rw[MR]
 match j,a with
 |0,a=>simp at a;subst a;rw[Xk E5];exact aR h.row E5 _
 |1,a=>simp at a;subst a;exact aR (h.set (o:=0) v0).row E5 _
 |j+2,a=>simp at a
def Kg(W0:NN)(p:Nat->Prop)(i:Nat)(W:NN):Prop:=K_ W0 W/\∀j,j<i->¬p j
theorem Kg.calm{a:NN}{p:Nat->Prop}{i:Nat}:Calm a.heap.size (Kg a p i):=by
 constructor
 .rintro W o j ⟨k,h⟩;exact⟨k.alloc o,h⟩
 .rintro W l o c d m n ⟨k,h⟩;have f:But (λb=>b=l) W (W.putObj l c):=⟨rfl,rfl,rfl,G7,λb _ e=>World.putObj_heap_other e⟩;exact⟨f.kept k (λb e=>by rw[e];exact d),h⟩
def Ij(W0:NN)(Kf Kc:Nat->Prop)(Kq:List Qz)(wz:NN)(bb:Nat)(a:NM)(cap:Nat)(rd:NM)(rn rc mb:Nat)(σ:Env)(name:NL)(c:Code)(W:NN):Prop:=c=.exit 0/\∃(mx:Nat)(ts2:List Zk)(d2:NM)(dc2:Nat)(f2:NL->NP)(ws2:NL->List Nat),InB W0.heap.size Kf Kc [] W0 Kq wz W bb a cap rd rn rc mb mx ts2 d2 dc2 f2 ws2/\BS Kq ts2 ws2/\Qq (Qj ts2)=doX (Kk Kq) σ name/\bn (Kk Kq) σ name
theorem Ij.calm{m:NN}{p q:Nat->Prop}{Kq:List Qz}{wz:NN}{bb:Nat}{a:NM}{cap:Nat}{rd:NM}{rn rc mb:Nat}{σ:Env}{r:NL}{c:Code}:Calm m.heap.size (Ij m p q Kq wz bb a cap rd rn rc mb σ r c):=by
 constructor
 .rintro W o x ⟨b,d,e,f,h,i,j,k,l⟩;exact⟨b,d,e,f,h,i,j,k.kept ((K_.refl W).alloc o),l⟩
 .rintro W y o s t v w ⟨b,d,e,f,h,i,j,k,l⟩;exact⟨b,d,e,f,h,i,j,k.calm s t v w,l⟩
theorem Et(w:NN)(a:NM)(cap:Nat)(Kq:List Qz)(rd:NM)(rc:Nat)(Kj:List NL)(H:NM)(K:Nat)(p:List Q_)(q:NL)(hl:Kq.length<=1048576)(hf:∀s∈Kq,s.Fits)(f6:Kj.length<=maxLen)(d1:Kj.length<=1048576)(f7:Kj.length<=rc)(f8:∀s∈Kj,s.size<=maxLen)(f9:p.length<=1048576)(g0:∀r∈p,r.texts.length<=1048576)(hS:bQ w a Kq)(hR:Strs w rd Kj)(hG:bN w H p)(d2:fU w):Calls prog 29 #[.agg #[.slice a Kq.length cap],.agg #[.slice rd Kj.length rc,.slice H p.length K],.string q] w λe w'=>Lb Kq Kj p q w w' e:=by
 let⟨Z,a0⟩:=aj ((((w.alloc (.cells #[.slice a Kq.length cap] 25)).alloc (.cells #[.slice rd Kj.length rc,.slice H p.length K] 43)).alloc (.cells #[.string q] 9)).alloc (.cells #[M3,M3] 43));have L:K_ w Z:=by rw[a0];exact (((ah _ _).alloc _).alloc _).alloc _
 have zB:Z.heap.size=w.heap.size+1+1+1+1:=by rw[a0];simp
 have g1:Hid (∀w',K_ Z w'->M4 w' (w.heap.size+1+1) 0 (.string q)):=λw' kk=>by
  have d3:=(xx (w:=(w.alloc (.cells #[.slice a Kq.length cap] 25)).alloc (.cells #[.slice rd Kj.length rc,.slice H p.length K] 43)) (v:=.string q) (t:=9) (w1:=w') (K_.trans (by rw[a0];exact ah _ _) kk)).1;simp only[MZ] at d3;exact d3
 have b2:Hid (ay Z (w.heap.size+1+1+1) 43 2):=by
  have h:=ay.made (((w.alloc (.cells #[.slice a Kq.length cap] 25)).alloc (.cells #[.slice rd Kj.length rc,.slice H p.length K] 43)).alloc (.cells #[.string q] 9)) #[M3,M3] 43;simp only[MZ] at h;rw[a0];exact h
 refine (callsIn_wide (n:=9)).1 ?_;refine callsIn_of_wp_marks func29 rfl trivial ?_ rfl;simp only[ntmps29,List.size_toArray,Nc,List.length_nil,Nat.reduceAdd,Nat.reduceSub,Array.replicate_succ,Array.replicate_zero,List.push_toArray,List.append_toArray,List.nil_append,List.cons_append]
 gi_wp2_with fail
 rw[<-a0];clear a0;refine⟨trivial,(callsIn_wide.2 (kK _ a cap Kq rd rc Kj H K p hl hf f6 f7 f8 f9 g0 (hS.kept L) (hR.kept L) (hG.kept L) (d2.kept L))).mono ?_⟩;rintro e z ⟨R,g2⟩;have K1:=L.trans R;have z1:=R.size;have b3:Hid (∀a7,ay (z.alloc (.cells #[a7] 88)) (w.heap.size+1+1+1) 43 2):=λa7=>b2.o.kept (R.trans (ah _ _))
 rcases g2 with⟨E,rfl⟩|⟨hW,b4,hA,wz,l,mb,mx,b,d4,dc,g3,ws,A,rfl,kz,hB,b5,i1,S,d5,d6⟩
 .have g4:=Kz E;have M:=b3.o (.pointer none);let⟨⟨_,fa⟩,fb⟩:=M.row.at (i:=0) E5;let⟨⟨_,fc⟩,fd⟩:=M.row.at (i:=1) E5;have F:=Kz M;have HK:=Kz ((K1.alloc (.cells #[.pointer none] 88)));clear E M
  gi_wp2_with fail
  refine⟨_,jv [M3,M3] _ results29 rfl (Ch F.o) underlying43 rfl Tryz.lF,.inr ⟨λh=>g4.o ⟨h.1,h.2.1,h.2.2.2.good.asc⟩,rfl,?_⟩⟩;exact (HK.o.setCell F6 _).setCell F6 _
 have d7:Hid (∀s∈Kj,s.size<=1048576):=λs hs=>by
  obtain⟨m,I,rfl⟩:=MB hs;have h:=(b4.2.2 m I).1.2.1;simp only[List.getD,Mq I,NC] at h;omega
 have HV:=Kz (S.trans (mV hW b4 b5 d5 d6));have⟨d8,C,b6,T⟩:=nC S hB b5 hW;clear b4 hA S d5 d6 hB b5 hW;cases A
 .have M:=b3.o (.c l);let⟨⟨_,fa⟩,fb⟩:=M.row.at (i:=0) E5;let⟨⟨_,fc⟩,fd⟩:=M.row.at (i:=1) E5;have F:=Kz M;have HK:=Kz ((K1.alloc (.cells #[.c l] 88)));clear M
  gi_wp2_with fail
  refine⟨_,jv [M3,M3] _ results29 rfl (Ch F.o) underlying43 rfl Tryz.lF,.inr ⟨λh=>(by have B:=HV.o.2 h;cases B),rfl,?_⟩⟩;exact (HK.o.setCell F6 _).setCell F6 _
 have b7:Hid (Qj b=p):=d8.o.1 rfl;have a8:Hid (bR Kq Kj p):=HV.o.1 rfl;clear d8 HV b3
 gi_wp2_with fail
 obtain⟨y,U⟩:∃y,z.alloc (.cells #[.c l] 88)=y:=⟨_,rfl⟩;rw[U];have V:K_ z y:=by rw[<-U];exact ah _ _
 have z0:y.heap.size=z.heap.size+1:=by rw[<-U];simp
 have qb:=(xx (w:=z) (v:=.c l) (t:=88) (w1:=y) (by rw[U];exact K_.refl _)).1;have i2:=C.o.len (gy T.o);have i3:=C.o.row.lt;have zw:=C.o.kw.size;have a9:=(C.o.kept V).c3;obtain⟨Kf,d9⟩:∃Kf:Nat->Prop,Kf=λk=>k=z.heap.size:=⟨_,rfl⟩
 obtain⟨Kc,e0⟩:∃Kc:Nat->Prop,Kc=λ_=>False:=⟨_,rfl⟩
 have g5:Kf z.heap.size:=by rw[d9]
 have g6:Hid (InB y.heap.size Kf Kc [] y Kq wz y l a cap rd Kj.length rc mb mx b d4 dc g3 ws):=InB.start (C.o.kept V) (λk hk=>by
   rw[d9,e0] at hk;rcases hk with e|e
   .exact⟨E5,C.o.far E5⟩
   .exact e.elim) (λk hk=>by rw[e0] at hk;exact hk.elim) (λi4 hp=>by cases hp)
 refine nW (mf l d4 b.length dc (ig b) E5) rfl (enters_of func71 F4 rfl) (vL E5) a9 (λ_=>rfl)
  (Kg y λm=>∃I:m<b.length,aS (Kk Kq) (Qq (Qj b)) (b[m]).r/\(b[m]).r.name=q) (Ij y Kf Kc Kq wz l a cap rd Kj.length rc mb (Qq (Qj b)) q) (λi=>Kg.calm) (λ_=>Ij.calm)
  ⟨K_.refl _,λm I=>aO I⟩
  (λi=>{tmps:= #[.agg #[.slice a Kq.length cap],.agg #[.slice rd Kj.length rc,.slice H p.length K],.string q,.c w.heap.size,.c (w.heap.size+1),.c (w.heap.size+1+1),.c (w.heap.size+1+1+1),.c z.heap.size,.bool true,.c (ig b i),.tuple #[.c l,.bool true],.agg #[.slice a Kq.length cap],.agg #[.slice rd Kj.length rc,.slice H p.length K],.tuple #[.c l,.bool true],.c l,.bool true,.bool true,.bool false,undef,.c l,.func (.func 71) #[.c l] #[],.c (ig b i),undef,undef,undef,undef,undef,undef,undef,undef,undef,undef,undef,undef],defers:=[]}) ?assign (λi=>qp λg e=>by have:=(C.o.apart e).1;omega) ?step ?done ?stop
 case assign=>
  intro e1 i W i5 hK
  gi_wp2
  exact hK
 case step=>
  rintro i W Q ⟨k,E⟩;rcases (C.o.kept (V.trans k)).sees b6.o Q with⟨j,hr⟩|⟨hn,hr⟩;rotate_left
  .refine .inr ⟨hn,k,λm I=>?_⟩;by_cases e:m=i
   .subst e;rintro⟨_,v,_⟩;exact hr v
   .exact E m E5
  refine .inl ⟨j,?_⟩;have HR:=Kz hr;clear j hr E k;clear W;rintro e1 W _ ⟨k,E⟩ i6;have g7:=Kz E;clear E;have hT:=(C.o.kept (V.trans k)).eZ b[i] (Mw Q);have t0:M4 W (ig b i) 0 (.string b[i].r.name):=by
   have h:=hT.rng 0 _ rfl;simpa[ig,List.getD,Q] using h
  have g8:ig b i<z.heap.size:=by
   have h:=(C.o.eZ b[i] (Mw Q)).row.lt;simpa[ig,List.getD,Q] using h
  have e2:Hid (ig b i= (b[i]).tb):=by show ig b i= (b[i]).tb;simp[ig,List.getD,Q]
  have n0:=g1.o W (R.trans (V.trans k));have v0:M4 W z.heap.size 0 (.c l):=(k.cell E5).trans qb;let⟨b0,hn⟩:=aj (b[i].r.name);let⟨tb,b1⟩:=aj (ig b i);rw[<-hn,<-b1] at t0;rw[<-b1] at g8 e2;rw[<-b1];have HN:=Kz hn;clear hT hn b1 qb a9 U;have hd:1<=7:=E5;have i7:prog.follows .mixedOrders=true:=F4
  gi_wp2
  rename_i Q1 K1' hK1
  have e3:∀w2:NN,K_ W w2->K1' {tmps:= #[.agg #[.slice a Kq.length cap],.agg #[.slice rd Kj.length rc,.slice H p.length K],.string q,.c w.heap.size,.c (w.heap.size+1),.c (w.heap.size+1+1),.c (w.heap.size+1+1+1),.c z.heap.size,.bool true,.c tb,.tuple #[.c l,.bool true],.agg #[.slice a Kq.length cap],.agg #[.slice rd Kj.length rc,.slice H p.length K],.tuple #[.c l,.bool true],.c l,.bool true,.bool true,.bool false,undef,.c l,.func (.func 71) #[.c l] #[],.c tb,.c tb,.c tb,.c tb,.c tb,.string b0,.string q,.bool (b0.toList == q.toList),undef,undef,undef,undef,undef],defers:=[]} w2:=by
   intro w2 k2;apply hK1;have v2:=(k2.cell (o:=0) E5).trans v0;cases e4:(b0.toList == q.toList)
   .clear v2 v0 t0 n0
    gi_wp2
    refine⟨iq k2 _,k.trans k2,λm I=>?_⟩;by_cases e:m=i
    .subst e;rintro⟨_,_,B⟩;exact jN e4 (by rw[HN.o];exact B)
    .exact g7.o m E5
   .have e5:b0=q:=fC e4;have e6:=Kz e5;have J:=g6.o.kept (k.trans k2);have g9:=Kz J;have h0:=gy T.o;have b8:=uJ J.told b6.o (i:=i) (t:=b[i]) (Mq Q) HR.o (bV T.o) hf h0 (rD T.o) (hS.kept (L.trans kz)) E5 (d2.kept (L.trans kz));rw[<-e2.o] at b8;have e7:=Kz b8;clear b8 J e5
    gi_wp2_with fail
    refine⟨trivial,(CallsIn.inRound e1 (callsIn_wide.2 e7.o)).mono ?_⟩;rintro e w4 ⟨rfl,c,e8,e9,f0,f1,f2,a1,a2⟩;let⟨f3,f4,_⟩:=g9.o.did f2;have h1:Hid (KeepsFrom y.heap.size W w4/\Ij y Kf Kc Kq wz l a cap rd Kj.length rc mb (Qq (Qj b)) q (.exit 0) w4):=⟨(iq k2 _).trans f4,rfl,_,c,e8,e9,f0,f1,f3,a1,by rw[a2,<-HN.o,e6.o],⟨b[i].r,by rw[<-e6.o,HN.o];exact bJ C.o.asc (Nk (Mw Q)),HR.o⟩⟩;clear f2 a1 a2 f3 f4 e7
    gi_wp2
    exact h1.o
  have h2:=Kz e3;clear e3 hK1
  gi_region_with_o (fail)
  all_goals exact h2.o _ (aY W)
 case done=>
  rintro D W hD ⟨k,E⟩ a3;have b9:=Kz (C.o.kept (V.trans k));have X:=R.trans (V.trans k);have N:=L.trans X;have v0:M4 W z.heap.size 0 (.c l):=(k.cell E5).trans qb;have c0:Hid (IV Kq p q (Qj b)):=.inr ⟨λ⟨r,v,B⟩=>by
   rw[<-b7.o] at v B;let⟨h3,h4⟩:=aZ v;obtain⟨t,ht,rfl⟩:=MM.1 h3;obtain⟨m,I,rfl⟩:=MB ht;exact E m I ⟨I,B,h4⟩,b7.o⟩
  have c1:Hid (b.length<=60):=by show b.length<=60;omega
  clear E qb a9 U;have a4:∀t∈b,t.r.name.size<=1048576/\t.r.text.size<=1048576/\t.r.texts.length<=1048576/\∀x∈t.r.texts,x.size<=1048576:=λt ht=>by
   have G:=b6.o.good.good t.r (Nk ht);let⟨h5,hA,_⟩:=G.act;have v:=(bV T.o _ _ hA).2.2.1;have B:=G.tl;have h3:=G.hi;have h4:=G.tx;exact⟨E5,E5,E5,λx hx=>by have:=G.ts x hx;omega⟩
  have c2:=Kz a4;clear a4
  gi_wp2_with fail
  refine⟨trivial,(callsIn_wide.2 (jM Kj b9.o d1 d7.o c1.o c2.o (hR.kept N))).mono ?_⟩;rintro e n ⟨d,f,Y,rfl,a5,a6,h6,c4,O⟩;have c5:=aM a3;have c6:=(O.block D c5).trans a3;have z9:=O.size;have P:=b2.o.kept (X.trans O);let⟨⟨_,fa⟩,fb⟩:=P.row.at (i:=0) E5;let⟨⟨_,fc⟩,fd⟩:=P.row.at (i:=1) E5;have h7:w.heap.size+1+1+1<D:=by have v:=X.size;have B:=R.size;omega
  have⟨F,c7,c8⟩:=di P a5 a6;have h8:¬D=w.heap.size+1+1+1:=E5;have KF:=N.trans O;clear P a5 a6
  gi_wp2
  have c9:((n.setCell ⟨w.heap.size+1+1+1,0,none⟩ (.slice d Kj.length Kj.length)).setCell ⟨w.heap.size+1+1+1,1,none⟩ (.slice f (Qj b).length (Qj b).length)).heap[D]? =some (.deferred (some [])):=by
   rw[Below.heap_setCell _ _ _ _ F6,Below.heap_setCell _ _ _ _ F6];exact c6
  have hX:Row (((n.setCell ⟨w.heap.size+1+1+1,0,none⟩ (.slice d Kj.length Kj.length)).setCell ⟨w.heap.size+1+1+1,1,none⟩ (.slice f (Qj b).length (Qj b).length)).putObj D (.deferred none)) (w.heap.size+1+1+1) 2:=by
   have v:=((F.o.set (o:=0) (.slice d Kj.length Kj.length)).set (o:=1) (.slice f (Qj b).length (Qj b).length)).block (w':=((n.setCell ⟨w.heap.size+1+1+1,0,none⟩ (.slice d Kj.length Kj.length)).setCell ⟨w.heap.size+1+1+1,1,none⟩ (.slice f (Qj b).length (Qj b).length)).putObj D (.deferred none)) (World.putObj_heap_other E5);exact v.row
  have d0:(((n.setCell ⟨w.heap.size+1+1+1,0,none⟩ (.slice d Kj.length Kj.length)).setCell ⟨w.heap.size+1+1+1,1,none⟩ (.slice f (Qj b).length (Qj b).length)).putObj D (.deferred none)).rangeAt (w.heap.size+1+1+1) 0 [(.slice d Kj.length Kj.length),(.slice f (Qj b).length (Qj b).length)]:=by
   intro m a7 j;rw[MR,MC (w:=(n.setCell ⟨w.heap.size+1+1+1,0,none⟩ (.slice d Kj.length Kj.length)).setCell ⟨w.heap.size+1+1+1,1,none⟩ (.slice f (Qj b).length (Qj b).length)) (World.putObj_heap_other (by show w.heap.size+1+1+1≠D;omega))]
   match m,j with
   |0,j=>simp at j;subst j;rw[Xk E5];exact aR F.o.row E5 _
   |1,j=>simp at j;subst j;exact aR (F.o.set (o:=0) (.slice d Kj.length Kj.length)).row E5 _
   |m+2,j=>simp at j
  refine⟨E9,.inl ⟨_,_,rfl,run_takeDeferred c9,?_⟩⟩;refine⟨_,jv [(.slice d Kj.length Kj.length),(.slice f (Qj b).length (Qj b).length)] _ results29 rfl d0 underlying43 rfl Tryz.lF,.inl ⟨a8.o,Qj b,c0.o,d,f,Y,rfl,?_,?_,by have:=N.size;omega,by rw[World.putObj_size,size_setCell,size_setCell];exact c4,?_⟩⟩
  .refine cB.mono (lo:=W.heap.size) (hi:=Y) ?_ (by have:=N.size;omega) (Mj _);exact ((c7.o.same (Same.setCell _ (.inl F6) _)).same (Same.setCell _ (.inl F6) _)).same (λA S _ _=>World.putObj_heap_other E5)
  .refine gM.mono (lo:=Y) (hi:=n.heap.size) ?_ (Mj _) M0;exact ((c8.o.same (Same.setCell _ (.inl F6) _)).same (Same.setCell _ (.inl F6) _)).same (λA S _ _=>World.putObj_heap_other E5)
  .have kb:But (λA=>A=D) ((n.setCell ⟨w.heap.size+1+1+1,0,none⟩ (.slice d Kj.length Kj.length)).setCell ⟨w.heap.size+1+1+1,1,none⟩ (.slice f (Qj b).length (Qj b).length)) (((n.setCell ⟨w.heap.size+1+1+1,0,none⟩ (.slice d Kj.length Kj.length)).setCell ⟨w.heap.size+1+1+1,1,none⟩ (.slice f (Qj b).length (Qj b).length)).putObj D (.deferred none)):=⟨rfl,rfl,rfl,G7,λA _ e=>World.putObj_heap_other e⟩;exact kb.kept ((KF.setCell F6 _).setCell F6 _) (λA e=>by rw[e];omega)
 case stop=>
  rintro D i8 W hD ⟨rfl,i9,c,e8,e9,f0,f1,J,a1,a2,f5⟩ a3;have b9:=Kz J.bm;have h9:=J.bm.kw;have X:=kz.trans h9;have N:=L.trans X;have v0:M4 W z.heap.size 0 (.c l):=(MC (w:=y) (J.same _ g5)).trans qb;have c0:Hid (IV Kq p q (Qj c)):=by
   let⟨r,v,B⟩:=f5;rw[b7.o] at v B a2;refine .inl ⟨r,v,B,Be a1.good.asc (AU a8.o.2.2.2.good.asc) ?_⟩;rw[a2,qy a8.o.2.2.2.good.asc v]
  have c1:Hid (c.length<=60):=J.bm.len (gy T.o);have i0:=Kz a1;have j0:=J.size;clear J a1 a2 f5 qb a9 U;have a4:∀t∈c,t.r.name.size<=1048576/\t.r.text.size<=1048576/\t.r.texts.length<=1048576/\∀x∈t.r.texts,x.size<=1048576:=λt ht=>by
   have G:=i0.o.good.good t.r (Nk ht);let⟨h5,hA,_⟩:=G.act;have v:=(bV T.o _ _ hA).2.2.1;have B:=G.tl;have h3:=G.hi;have h4:=G.tx;exact⟨E5,E5,E5,λx hx=>by have:=G.ts x hx;omega⟩
  have c2:=Kz a4;clear a4
  gi_wp2_with fail
  refine⟨trivial,(callsIn_wide.2 (jM Kj b9.o d1 d7.o c1.o c2.o (hR.kept N))).mono ?_⟩;rintro e n ⟨d,f,Y,rfl,a5,a6,h6,c4,O⟩;have c5:=aM a3;have c6:=(O.block D c5).trans a3;have z9:=O.size;have P:=b2.o.kept (X.trans O);let⟨⟨_,fa⟩,fb⟩:=P.row.at (i:=0) E5;let⟨⟨_,fc⟩,fd⟩:=P.row.at (i:=1) E5;have h7:w.heap.size+1+1+1<D:=by have v:=X.size;have B:=R.size;omega
  have⟨F,c7,c8⟩:=di P a5 a6;have h8:¬D=w.heap.size+1+1+1:=E5;have KF:=N.trans O;clear P a5 a6
  gi_wp2
  have c9:((n.setCell ⟨w.heap.size+1+1+1,0,none⟩ (.slice d Kj.length Kj.length)).setCell ⟨w.heap.size+1+1+1,1,none⟩ (.slice f (Qj c).length (Qj c).length)).heap[D]? =some (.deferred (some [])):=by
   rw[Below.heap_setCell _ _ _ _ F6,Below.heap_setCell _ _ _ _ F6];exact c6
  have hX:Row (((n.setCell ⟨w.heap.size+1+1+1,0,none⟩ (.slice d Kj.length Kj.length)).setCell ⟨w.heap.size+1+1+1,1,none⟩ (.slice f (Qj c).length (Qj c).length)).putObj D (.deferred none)) (w.heap.size+1+1+1) 2:=by
   have v:=((F.o.set (o:=0) (.slice d Kj.length Kj.length)).set (o:=1) (.slice f (Qj c).length (Qj c).length)).block (w':=((n.setCell ⟨w.heap.size+1+1+1,0,none⟩ (.slice d Kj.length Kj.length)).setCell ⟨w.heap.size+1+1+1,1,none⟩ (.slice f (Qj c).length (Qj c).length)).putObj D (.deferred none)) (World.putObj_heap_other E5);exact v.row
  have d0:(((n.setCell ⟨w.heap.size+1+1+1,0,none⟩ (.slice d Kj.length Kj.length)).setCell ⟨w.heap.size+1+1+1,1,none⟩ (.slice f (Qj c).length (Qj c).length)).putObj D (.deferred none)).rangeAt (w.heap.size+1+1+1) 0 [(.slice d Kj.length Kj.length),(.slice f (Qj c).length (Qj c).length)]:=by
   intro m a7 j;rw[MR,MC (w:=(n.setCell ⟨w.heap.size+1+1+1,0,none⟩ (.slice d Kj.length Kj.length)).setCell ⟨w.heap.size+1+1+1,1,none⟩ (.slice f (Qj c).length (Qj c).length)) (World.putObj_heap_other (by show w.heap.size+1+1+1≠D;omega))]
   match m,j with
   |0,j=>simp at j;subst j;rw[Xk E5];exact aR F.o.row E5 _
   |1,j=>simp at j;subst j;exact aR (F.o.set (o:=0) (.slice d Kj.length Kj.length)).row E5 _
   |m+2,j=>simp at j
  refine⟨E9,.inl ⟨_,_,rfl,run_takeDeferred c9,?_⟩⟩;refine⟨_,jv [(.slice d Kj.length Kj.length),(.slice f (Qj c).length (Qj c).length)] _ results29 rfl d0 underlying43 rfl Tryz.lF,.inl ⟨a8.o,Qj c,c0.o,d,f,Y,rfl,?_,?_,by have:=N.size;omega,by rw[World.putObj_size,size_setCell,size_setCell];exact c4,?_⟩⟩
  .refine cB.mono (lo:=W.heap.size) (hi:=Y) ?_ (by have:=N.size;omega) (Mj _);exact ((c7.o.same (Same.setCell _ (.inl F6) _)).same (Same.setCell _ (.inl F6) _)).same (λA S _ _=>World.putObj_heap_other E5)
  .refine gM.mono (lo:=Y) (hi:=n.heap.size) ?_ (Mj _) M0;exact ((c8.o.same (Same.setCell _ (.inl F6) _)).same (Same.setCell _ (.inl F6) _)).same (λA S _ _=>World.putObj_heap_other E5)
  .have kb:But (λA=>A=D) ((n.setCell ⟨w.heap.size+1+1+1,0,none⟩ (.slice d Kj.length Kj.length)).setCell ⟨w.heap.size+1+1+1,1,none⟩ (.slice f (Qj c).length (Qj c).length)) (((n.setCell ⟨w.heap.size+1+1+1,0,none⟩ (.slice d Kj.length Kj.length)).setCell ⟨w.heap.size+1+1+1,1,none⟩ (.slice f (Qj c).length (Qj c).length)).putObj D (.deferred none)):=⟨rfl,rfl,rfl,G7,λA _ e=>World.putObj_heap_other e⟩;exact kb.kept ((KF.setCell F6 _).setCell F6 _) (λA e=>by rw[e];omega)
def jC(w:NN)(g:Nat):Prop:=∀o s,w.cell? ⟨g,o,none⟩≠some (.string s)
variable {g:Nat}{w:NN}
theorem jC.kept{w':NN}(h:jC w g)(b:g<w.heap.size)(k:K_ w w'):jC w' g:=λo s e=>h o s ((k.cell b).symm.trans e)
variable {a:NM}
theorem uV{o:Nat}{v:NP}{l:List NL}(h:Strs w a l)(d:jC w g):Strs (w.setCell ⟨g,o,none⟩ v) a l:=by
 intro i e;obtain⟨b,p,rfl,f,c⟩:=h i e;refine⟨b,p,rfl,by rw[size_setCell];exact f,?_⟩;rw[MJ _ _ _ _ λj=>?_]
 .exact c
 .have k:g=b:=congrArg Addr.block j;subst k;exact d _ _ c
theorem pO{o:Nat}{v:NP}{l:List dS}(h:mJ w a l)(d:jC w g):mJ (w.setCell ⟨g,o,none⟩ v) a l:=by
 intro i e;obtain⟨b,p,rfl,f,c⟩:=h i e;refine⟨b,p,rfl,by rw[size_setCell];exact f,λj u k=>?_⟩;rw[MJ _ _ _ _ λm=>?_]
 .exact c j u k
 .have n:g=b:=congrArg Addr.block m;subst n;exact d _ _ (c 0 _ rfl)
theorem nS{vs:List NP}{l:List NL}(h:Strs w a l)(d:jC w g):Strs (w.setCells g 0 vs) a l:=by
 intro i e;obtain⟨b,p,rfl,f,c⟩:=h i e;refine⟨b,p,rfl,by rw[size_setCells];exact f,?_⟩;rw[World.cell?_setCells_out g vs 0 w _ λj _=>?_]
 .exact c
 .have k:b=g:=j;subst k;exact (d _ _ c).elim
theorem h_{vs:List NP}{l:List dS}(h:mJ w a l)(d:jC w g):mJ (w.setCells g 0 vs) a l:=by
 intro i e;obtain⟨b,p,rfl,f,c⟩:=h i e;refine⟨b,p,rfl,by rw[size_setCells];exact f,λj u k=>?_⟩;rw[World.cell?_setCells_out g vs 0 w _ λm _=>?_]
 .exact c j u k
 .have n:b=g:=m;subst n;exact (d _ _ (c 0 _ rfl)).elim
def mG.cells(o:mG)(a f:NM)(c e0:Nat):List NP:=[.a o.code,.slice a o.res.length c,.slice f o.chain.length e0,.a o.eG,.a o.cost]
theorem ui{k m n:Int}{f:NM}{c e0 rl cl:Nat}{t:TypeId}:jC (w.alloc (.cells #[.a k,.slice a rl c,.slice f cl e0,.a m,.a n] t)) w.heap.size:=λo s e=>by
 have d:=X_ w #[.a k,.slice a rl c,.slice f cl e0,.a m,.a n] t
 match o,e with
 |0,e=>have:=d 0 _ rfl;rw[e] at this;cases this
 |1,e=>have:=d 1 _ rfl;rw[e] at this;cases this
 |2,e=>have:=d 2 _ rfl;rw[e] at this;cases this
 |3,e=>have:=d 3 _ rfl;rw[e] at this;cases this
 |4,e=>have:=d 4 _ rfl;rw[e] at this;cases this
 |o+5,e=>
  have h:=World.alloc_heap_new w (.cells #[.a k,.slice a rl c,.slice f cl e0,.a m,.a n] t);unfold World.cell? at e;simp only[h] at e;simp at e
theorem GD{b:Nat}{t:TypeId}(a:ay w b t 5)(h:∀o,o<5->∀s,w.cell? ⟨b,o,none⟩≠some (.string s)):jC w b:=λo s e=>by
 by_cases c:o<5
 .exact h o c s e
 .obtain⟨f,d,i⟩:=a;unfold World.cell? at e;simp only[d] at e;simp only[Option.isSome_none,Bool.false_eq_true,if_false] at e;have j:=(MX.1 e).1;omega
def EH(Kq:List Qz)(Kj:List NL)(sl:List Q_)(w w':NN)(e:Ending):Prop:=∃(o:mG)(a f:NM)(c e0:Nat),e=.returned (.agg #[.a o.code,.slice a o.res.length c,.slice f o.chain.length e0,.a o.eG,.a o.cost])/\gN Kq Kj sl o/\mJ w' a o.res/\Strs w' f o.chain/\K_ w w'
theorem Tryz.bP :(prog.info? 39).map (·.size)=some 5:=F4
theorem But.after{S c:Nat->Prop}{w' d:NN}(h:But S w w')(k:But c w' d)(f:∀b,b<w.heap.size->¬S b->¬c b):But S w d:=⟨k.os.trans h.os,k.tape.trans h.tape,k.output.trans h.output,Mm h.size k.size,λb a e=>(k.block b (Mk a h.size) (f b a e)).trans (h.block b a e)⟩
theorem miss{b o a:Nat}{x v:NP}(h:w.cell? ⟨b,o,none⟩=some x)(d:o≠a):(w.setCell ⟨b,a,none⟩ v).cell? ⟨b,o,none⟩=some x:=by rw[Xk E5];exact h
structure fK (W2:NN)(ob:Nat)(w:NN)(code:Int)(rv:NP)(eG cost:Int):Prop where
 but:But (λb=>b=ob) W2 w
 row:ay w ob 39 5
 c0:w.cell? ⟨ob,0,none⟩=some (.a code)
 c1:w.cell? ⟨ob,1,none⟩=some rv
 c2:w.cell? ⟨ob,2,none⟩=some M3
 c3:w.cell? ⟨ob,3,none⟩=some (.a eG)
 c4:w.cell? ⟨ob,4,none⟩=some (.a cost)
section
variable {W2 w w':NN}{ob:Nat}{code eG cost:Int}{rv:NP}
theorem fK.kept(h:fK W2 ob w code rv eG cost)(k:K_ w w'):fK W2 ob w' code rv eG cost:=⟨h.but.trans (But.ax k),h.row.kept k,(k.cell h.row.lt).trans h.c0,(k.cell h.row.lt).trans h.c1,(k.cell h.row.lt).trans h.c2,(k.cell h.row.lt).trans h.c3,(k.cell h.row.lt).trans h.c4⟩
theorem fK.alike(h:fK W2 ob w code rv eG cost){S:Nat->Prop}(k:But S w w')(c:∀b,S b->W2.heap.size<=b)(d:ob<W2.heap.size):fK W2 ob w' code rv eG cost:=have a:¬S ob:=λe=>by have:=c _ e;omega
 ⟨h.but.after k (λb f _ e=>by have:=c _ e;omega),k.row h.row a,(k.cell h.row.lt a).trans h.c0,(k.cell h.row.lt a).trans h.c1,(k.cell h.row.lt a).trans h.c2,(k.cell h.row.lt a).trans h.c3,(k.cell h.row.lt a).trans h.c4⟩
theorem fK.set0(h:fK W2 ob w code rv eG cost)(x:Int):fK W2 ob (w.setCell ⟨ob,0,none⟩ (.a x)) x rv eG cost:=⟨h.but.set rfl _,h.row.set _,aR h.row.row E5 _,miss h.c1 E8,miss h.c2 E8,miss h.c3 E8,miss h.c4 E8⟩
theorem fK.set1(h:fK W2 ob w code rv eG cost)(x:NP):fK W2 ob (w.setCell ⟨ob,1,none⟩ x) code x eG cost:=⟨h.but.set rfl _,h.row.set _,miss h.c0 E8,aR h.row.row E5 _,miss h.c2 E8,miss h.c3 E8,miss h.c4 E8⟩
theorem fK.Lx(h:fK W2 ob w code rv eG cost)(x:Int):fK W2 ob (w.setCell ⟨ob,3,none⟩ (.a x)) code rv x cost:=⟨h.but.set rfl _,h.row.set _,miss h.c0 E8,miss h.c1 E8,miss h.c2 E8,aR h.row.row E5 _,miss h.c4 E8⟩
theorem fK.LB(h:fK W2 ob w code rv eG cost)(x:Int):fK W2 ob (w.setCell ⟨ob,4,none⟩ (.a x)) code rv eG x:=⟨h.but.set rfl _,h.row.set _,miss h.c0 E8,miss h.c1 E8,miss h.c2 E8,miss h.c3 E8,aR h.row.row E5 _⟩
theorem fK.no{c:NM}{rn rc:Nat}(h:fK W2 ob w code (.slice c rn rc) eG cost):jC w ob:=GD h.row λo d s e=>by
 match o,d,e with
 |0,_,e=>have:=h.c0;rw[e] at this;cases this
 |1,_,e=>have:=h.c1;rw[e] at this;cases this
 |2,_,e=>have:=h.c2;rw[e] at this;cases this
 |3,_,e=>have:=h.c3;rw[e] at this;cases this
 |4,_,e=>have:=h.c4;rw[e] at this;cases this
end
def nG(l:List dS)(code:Int):Prop:=(code=0/\¬∃r∈l,r.over=false)\/(code=2/\∃r∈l,r.over=false)
theorem nG.yes{l:List dS}{code:Int}(h:nG l code)(r:dS)(e:r.over=true):nG (l++[r]) code:=by
 rcases h with⟨a,b⟩|⟨a,x,c,b⟩
 .refine .inl ⟨a,λ⟨x,c,d⟩=>?_⟩;rcases Mv.1 c with h|h
  .exact b ⟨x,h,d⟩
  .rw[Mt] at h;rw[h,e] at d;cases d
 .exact .inr ⟨a,x,Mv.2 (.inl c),b⟩
theorem nG.no(l:List dS)(r:dS)(a:r.over=false):nG (l++[r]) 2:=.inr ⟨rfl,r,Mv.2 (.inr (Mt.2 rfl)),a⟩
theorem DV(w:NN)(a:NM)(cap:Nat)(Kq:List Qz)(V:NM)(rc:Nat)(Kj:List NL)(d:NM)(dc:Nat)(l:List Q_)(d3:Kq.length<=1048576)(hv:bR Kq Kj l)(hN:bQ w a Kq)(hS:bN w d l)(hR:Strs w V Kj):Calls prog 73 #[.agg #[.slice a Kq.length cap],.agg #[.slice V Kj.length rc,.slice d l.length dc]] w λe w'=>EH Kq Kj l w w' e:=by
 have⟨d4,d5⟩:=aH hv hv.good;have g0:=bV hv.1;have j7:=Mm hv.good.len (gy hv.1);have w4:=hv.2.1.2.1;have q5:Hid (∀a5∈Kj,a5.size<=20):=λa5 hn=>by
  obtain⟨i,hi,rfl⟩:=MB hn;have j:=(hv.2.1.2.2 i hi).1.2.1;simpa[List.getD,hi] using j
 clear hv;let⟨I,a1⟩:=aj (((w.alloc (.cells #[.slice a Kq.length cap] 25)).alloc (.cells #[.slice V Kj.length rc,.slice d l.length dc] 43)).alloc (.cells #[.a 0,M3,M3,.a 0,.a 0] 39));have kB:K_ w I:=by rw[a1];exact ((ah _ _).alloc _).alloc _
 have q6:I.heap.size=w.heap.size+3:=by rw[a1];simp
 have b0:M4 I w.heap.size 0 (.slice a Kq.length cap):=by
  rw[a1];exact (xx (w:=w) (v:=.slice a Kq.length cap) (t:=25) ((ah _ _).alloc _)).1
 have b7:M4 I (w.heap.size+1) 0 (.slice V Kj.length rc)/\M4 I (w.heap.size+1) 1 (.slice d l.length dc):=by
  have j:=yN (w:=w.alloc (.cells #[.slice a Kq.length cap] 25)) (v0:=.slice V Kj.length rc) (v1:=.slice d l.length dc) (t:=43) (w1:=I) (by rw[a1];exact ah _ _);rw[MZ] at j;exact j
 have a6:Hid (ay I (w.heap.size+1+1) 39 5):=by
  have j:=ay.made ((w.alloc (.cells #[.slice a Kq.length cap] 25)).alloc (.cells #[.slice V Kj.length rc,.slice d l.length dc] 43)) #[.a 0,M3,M3,.a 0,.a 0] 39;rw[MZ,MZ] at j;rw[a1];exact j
 have j8:Hid (jC I (w.heap.size+1+1)):=by
  have j:=ui (w:=(w.alloc (.cells #[.slice a Kq.length cap] 25)).alloc (.cells #[.slice V Kj.length rc,.slice d l.length dc] 43)) (k:=0) (m:=0) (n:=0) (a:=none) (f:=none) (c:=0) (e0:=0) (rl:=0) (cl:=0) (t:=39);rw[MZ,MZ] at j;rw[a1];exact j
 let⟨h,b8⟩:=aj I.heap.size;let⟨WO,a7⟩:=aj (I.alloc (.cells #[.a 0,M3,M3,.a 0,.a 0] 39));have kO:K_ I WO:=by rw[a7];exact ah _ _
 have zO:h<WO.heap.size:=by rw[a7,b8];simp
 have j9:Hid (fK WO h WO 0 M3 0 0):=by
  let⟨q0,q1,q2,q3,q4⟩:=mP (w:=I) (w1:=WO) (v0:=.a 0) (v1:= M3) (v2:= M3) (v3:=.a 0) (v4:=.a 0) (t:=39) (by rw[a7];exact K_.refl _);rw[<-b8] at q0 q1 q2 q3 q4;exact⟨But.ax (K_.refl _),by rw[a7,b8];exact ay.made I _ _,q0,q1,q2,q3,q4⟩
 have w9:w.heap.size+1+1<h:=E5;have k0:=Kz kB;have zB:w.heap.size+1+1<I.heap.size:=E5;clear q6;go_enter func73,ntmps73
 go_upto_region 1 with fail
 rw[<-a1];clear a1;go_upto_region 2 with fail
 rw[<-a7,<-b8];have P:=(kO.cell (o:=0) (b:=w.heap.size) E5).trans b0;have Q:=(kO.cell (o:=0) (b:=w.heap.size+1) E5).trans b7.1;have T:=(kO.cell (o:=1) (b:=w.heap.size+1) E5).trans b7.2;clear a7 b8;go_wp2_with fail
 refine (oP WO a Kq.length cap V Kj.length rc d l.length dc).mono ?_;rintro e A ⟨kb,rfl,d6,k2⟩;have d7:=Kz d6;have g1:=d6.row.lt;have g2:Hid (fK A h A 0 M3 0 0):=by
  have j:=j9.o.kept k2;exact⟨But.ax (K_.refl _),j.row,j.c0,j.c1,j.c2,j.c3,j.c4⟩
 have a3:=kO.trans k2;have q7:=Mk zO k2.size;have g3:¬kb=h:=aU d6.row.type g2.o.row.type E8;have z2:w.heap.size+1+1<A.heap.size:=E5;have HC:Hid (∀u,But (λb=>b=h) A u->M4 u w.heap.size 0 (.slice a Kq.length cap)/\M4 u (w.heap.size+1) 0 (.slice V Kj.length rc)/\M4 u (w.heap.size+1) 1 (.slice d l.length dc)/\gL u kb a Kq.length cap d l.length dc/\K_ w u/\ay u (w.heap.size+1+1) 39 5/\jC u (w.heap.size+1+1)/\A.heap.size<=u.heap.size):=λu j=>by
  have q8:=a6.o.lt;refine⟨?_,?_,?_,⟨j.row d7.o.row g3,(j.cell g1 g3).trans d7.o.web,(j.cell g1 g3).trans d7.o.runs⟩,j.kept (k0.o.trans a3) (λb e=>by rw[e];omega),j.row (a6.o.kept a3) λ(e:w.heap.size+1+1=h)=>E5,λo g4 e=>(j8.o.kept q8 a3) o g4 ((j.cell z2 λ(e:w.heap.size+1+1=h)=>E5).symm.trans e),j.size⟩
  .exact (j.cell E5 λ(e:w.heap.size=h)=>E5).trans ((a3.cell E5).trans b0)
  .exact (j.cell E5 λ(e:w.heap.size+1=h)=>E5).trans ((a3.cell E5).trans b7.1)
  .exact (j.cell E5 λ(e:w.heap.size+1=h)=>E5).trans ((a3.cell E5).trans b7.2)
 let⟨R,k1⟩:=aj (pu (Kk Kq) (Qq l));have d8:=Kz k1;clear k1 P Q T b0 b7 kB kO k2 a3 a6 j8 j9 d7 d6 g1 k0 zO;go_wp2
 go_loopw [7] (λx7 wr=>∃(k:Nat)(n:NM)(q:Nat)(Z:Int),k<=Kj.length/\x7=.a (k:Int)/\Hid (nG ((Kj.take k).map R) Z)/\Hid (fK A h wr Z (.slice n k q) 0 0)/\Hid (wr.ownsRow A.heap.size 104 4 (.slice n k q) k (bB ((Kj.take k).map R)))) (λx7 _=>Kj.length-(intOf x7).toNat)
 case atStart=>exact⟨0,none,0,0,Ml _,rfl,Kz (.inl ⟨rfl,λ⟨_,j,_⟩=>by cases j⟩),g2,Kz (Nj _ _ _ _)⟩
 case round=>
  clear g2;obtain⟨k,n,q,Z,hk,rfl,g5,B,W⟩:=hrel;let⟨P,Q,T,d9,Kr,e1,e3,g7⟩:=HC.o wr B.o.but;have y0:w.heap.size<wr.heap.size:=E5;have y1:w.heap.size+1<wr.heap.size:=E5;have⟨k4,M⟩:=aH d9 Kr;clear d9 e1 e3;by_cases b9:k<Kj.length
  .have x0:(k:Int)<(Kj.length:Int):=E5;let⟨sb,so,e4,k6,g8⟩:=hR k b9;subst e4;let⟨L,g9⟩:=aj (Kj.getD k ByteArray.empty);rw[<-g9] at g8;have k8:=(M.o.cell k6).trans g8;have k9:=Mk k6 M.o.size;clear g8;have h0:Kj[k]=L:=by rw[g9];simp[List.getD,b9]
   have l0:L∈Kj:=by rw[<-h0];exact Mw b9
   have l1:=Kz h0;have x1:=q5.o L l0;clear g9 h0 l0;go_wp2_with fail
   refine (qg wr kb a cap Kq d dc l L d3 E5 E5 k4.o (hN.kept M.o) (hS.kept M.o)).mono ?_;rintro e w3 ⟨⟨fl,tx,ok,rfl,l2,c0⟩,k3⟩;have a6:Hid (R L= ⟨L,ok,fl,tx⟩):=by
    show R L=_;rw[d8.o];unfold pu;rw[l2];cases ok
    .obtain⟨h1,h2⟩:=c0 rfl;rw[h1,h2]
     rfl
    .rfl
   have h6:Hid ((Kj.take (k+1)).map R= (Kj.take k).map R++[⟨L,ok,fl,tx⟩]):=by
    show _=_;rw[Ms b9,ND,l1.o,<-a6.o]
    rfl
   let⟨D,c1⟩:=aj (w3.alloc (.cells #[.bool fl,.string tx] 100));have l3:K_ w3 D:=by rw[c1];exact ah _ _
   let⟨pb,e6⟩:=aj w3.heap.size;have e7:=yN (w:=w3) (v0:=.bool fl) (v1:=.string tx) (t:=100) (w1:=D) (by rw[c1];exact K_.refl _);rw[<-e6] at e7;have K4:=k3.trans l3;have l4:∀b,(Value.slice n k q).ownBlock=some b->b≠pb:=λb e=>by have h1:=(W.o.lt b e).2;have h2:=k3.size;omega
   have l5:pb<D.heap.size:=by rw[c1,e6];simp
   have h7:=Kz (B.o.kept K4);have l6:=Kz (au W.o K4);have q9:=Mk k9 K4.size;have x2:=Mm g7 K4.size;have r0:h<D.heap.size:=E5;have r1:w.heap.size+1<D.heap.size:=E5;have a0:Hid (∀u:NN,(∀b,b<D.heap.size->¬A.heap.size<=b\/b=pb->u.heap[b]? =D.heap[b]?)->M4 u h 1 (.slice n k q)/\M4 u (w.heap.size+1) 0 (.slice (some ⟨sb,so,none⟩) Kj.length rc)/\M4 u sb (so+k) (.string L)/\M4 u pb 0 (.bool fl)/\M4 u pb 1 (.string tx)):=λu J=>by
    have r2:=(K4.cell y1).trans Q;exact⟨(MC (w:=D) (J h r0 (.inl E5))).trans h7.o.c1,(MC (w:=D) (J _ r1 (.inl (by show¬_<=w.heap.size+1;omega)))).trans r2,(MC (w:=D) (J sb q9 (.inl E5))).trans ((K4.cell k9).trans k8),(MC (w:=D) (J pb l5 (.inr rfl))).trans e7.1,(MC (w:=D) (J pb l5 (.inr rfl))).trans e7.2⟩
   let⟨ic,r3,r4,r5,r6⟩:=aW Tryz.og;have x3:=M.o.trans K4;go_upto_region 7 with fail
   rw[<-c1,<-e6];clear c1 e6 e7 l3 k3 l2 c0 P Q T k8 a6 l1;refine mg 16 a0.o (λ_ _ _=>rfl) λN O z=>?_
   refine ak 0 z ?_;refine ak 4 z ?_;refine ak 8 z ?_;refine ae 12 z ?_;refine ai 13 λK H=>?_;go_simp
   have K5:K_ N (N.alloc (.cells #[.string L,.bool ok,.bool fl,.string tx] 104)):=ah _ _;have e8:=X_ N #[.string L,.bool ok,.bool fl,.string tx] 104;have U:=O.trans K5;have a4:∀b,b<D.heap.size->¬A.heap.size<=b\/b=pb->(N.alloc (.cells #[.string L,.bool ok,.bool fl,.string tx] 104)).heap[b]? =D.heap[b]? :=λb hb _=>U.block b hb
   refine H.out _ _ (λ_=>a0.o _ a4) ?_;clear H K z;let⟨eb,l7⟩:=aj N.heap.size;rw[<-l7] at e8⊢;generalize r7:N.alloc (.cells #[.string L,.bool ok,.bool fl,.string tx] 104)=w6 at e8 U a4⊢;clear r7 K5 l7;have h8:=Kz (au l6.o U);have r8:=U.size;try simp only[upP]
   refine ai 14 λK H=>?_;refine step_append_lies _ rfl (.tmp 33) (.tmp 45) 37 rfl A.heap.size 104 ic _ 4 40 underlying37 r3 r4 r5 r6 rfl E8 (.slice n k q) k (bB ((Kj.take k).map R)) F9 h8.o ⟨eb,0,none⟩ 1 1 [.string L,.bool ok,.bool fl,.string tx] F9 rfl (λr9 u hu=>by rw[Nf];exact e8 r9 u hu) (λu hu=>by simp only[Nh,Ni,or_false] at hu;rcases hu with rfl|rfl|rfl|rfl<;>rfl) E5 F5 E5 E5 _ rfl ?_;intro g6 a8 w8 h9 l8 s0 x4;have i0:∀b,(Value.slice n k q).ownBlock=some b->A.heap.size<=b:=λb e=>(h8.o.lt b e).1
   have f1:But (λb=>(Value.slice n k q).ownBlock=some b) w6 w8:=But.aI l8 λb e=>e;have i1:∀b,b<D.heap.size->¬A.heap.size<=b\/b=pb->w8.heap[b]? =D.heap[b]? :=λb hb hn=>(f1.block b E5 λe=>by rcases hn with j|j;exact j (i0 b e);exact l4 b e j).trans (a4 b hb hn)
   have f2:=(h7.o.kept U).alike f1 i0 q7;have x5:=f1.size;let⟨⟨_,c2⟩,c6⟩:=f2.row.row.at (i:=1) E5;have s1:=f2.row.lt;let⟨W8,a2⟩:=aj (w8.setCell ⟨h,1,none⟩ (.b g6 (k+1) a8));have c7:Hid (fK A h W8 Z (.b g6 (k+1) a8) 0 0):=by rw[a2];exact f2.set1 _
   have f3:Hid (W8.ownsRow A.heap.size 104 4 (.b g6 (k+1) a8) (k+1) (bB ((Kj.take (k+1)).map R))):=by
    rw[a2,h6.o,lD];exact (But.set (S:=λb=>b=h) (But.ax (K_.refl w8)) (p:=⟨h,1,none⟩) rfl _).owns h9 (λb e e2=>by have:=(h9.lt b e).1;omega)
   refine af H (λ_=>a0.o _ i1) ?_;clear H K h9 l8 s0 f2;have z:=a0.o _ i1;refine ae 15 z ?_;refine ai 16 λK H=>?_;go_simp
   rw[<-a2];refine af H (λj=>NB rfl j) ?_;clear H K z;refine aC ?_;clear a2 c6 c2 i1 l4 i0 f1 e8 a4 h8 h7 l6 a0 B W O U s1;cases ok
   .have i2:Hid (nG ((Kj.take (k+1)).map R) 2):=by rw[h6.o];exact nG.no _ _ rfl
    have o0:=c7.o.c0;let⟨⟨_,f0⟩,f4⟩:=c7.o.row.row.at (i:=0) E5;have HF:=Kz (c7.o.set0 2);have HG:Hid ((W8.setCell ⟨h,0,none⟩ (.a 2)).ownsRow A.heap.size 104 4 (.b g6 (k+1) a8) (k+1) (bB ((Kj.take (k+1)).map R))):=(But.set (S:=λb=>b=h) (But.ax (K_.refl W8)) (p:=⟨h,0,none⟩) rfl _).owns f3.o (λb e e2=>by have:=(f3.o.lt b e).1;omega);clear c7 f3;go_wp2
    go_roundw
    case rel=>exact⟨k+1,some ⟨g6,0,none⟩,a8,2,E5,F3,i2,HF,HG⟩
    case measure=>simp[intOf];omega
   .have i2:Hid (nG ((Kj.take (k+1)).map R) Z):=by rw[h6.o];exact g5.o.yes _ rfl
    go_wp2
    go_roundw
    case rel=>exact⟨k+1,some ⟨g6,0,none⟩,a8,Z,E5,F3,i2,c7,f3⟩
    case measure=>simp[intOf];omega
  .have i3:¬((k:Int)<(Kj.length:Int)):=E5;have i4:k=Kj.length:=E5;have l9:Kj.take k=Kj:=by rw[i4];exact MS
   rw[l9] at g5 W;have f5:=Kz i4;clear b9 i4 l9 hk;have m0:Hid (0=dm (l.take 0)/\0=fq (Kk Kq) (l.take 0)):=⟨rfl,rfl⟩;go_wp2
   go_loopw [10] (λi5 wr=>∃(i:Nat)(y s:Int),i<=l.length/\i5=.a (i:Int)/\Hid (y=dm (l.take i)/\s=fq (Kk Kq) (l.take i))/\Hid (fK A h wr Z (.slice n k q) y s)/\Hid (wr.ownsRow A.heap.size 104 4 (.slice n k q) k (bB (Kj.map R)))) (λi5 _=>l.length-(intOf i5).toNat)
   case atStart=>exact⟨0,0,0,Ml _,rfl,m0,B,W⟩
   case round=>
    clear m0 B W P Q T k4 M Kr g7 y0 y1;obtain⟨i,y,s,hi,rfl,HU,B,W⟩:=hrel;let⟨P,Q,T,d9,Kr,e1,e3,g7⟩:=HC.o wr B.o.but;have y0:w.heap.size<wr.heap.size:=E5;have y1:w.heap.size+1<wr.heap.size:=E5;have⟨b1,m1,M⟩:=di e1 e3 Kr;clear d9 e1 e3 Kr;have s2:=Fe g0 d5.o j7 i;rw[<-HU.o.1,<-HU.o.2] at s2;by_cases b2:i<l.length
    .have x6:(i:Int)<(l.length:Int):=E5;let⟨rb,ro,xa,xc,e4,x8,f6,_,_⟩:=(hS.kept M.o) i b2;let⟨x9,y2,y3,y4,e2,y5,_⟩:=hS i b2;rw[e4] at e2;cases e2;subst e4;let⟨x,hx⟩:=aj (l.getD i Q_.zero);rw[<-hx] at f6;have i6:l[i]=x:=by rw[hx];simp[List.getD,b2]
     have m2:x∈l:=by rw[<-i6];exact Mw b2
     have t0:=f6 0 _ rfl;have t5:=f6 5 _ rfl;rw[Ng] at t0;have f7:=d5.o.good x m2;let⟨y6,hA,_⟩:=f7.act;have m3:=qC g0 x.name;have s3:0<=x.Zq/\x.Zq<=20:=⟨f7.lo,f7.hi⟩;have s4:=EK s3 m3;let⟨nk,i3,m4,m5,m6⟩:=fJ hA;let⟨nb,no,cs,m7,m8,m9,na,y7,n0,_⟩:=(hN.kept M.o) nk i3;let⟨y8,y9,z0,e5,z1,_⟩:=hN nk i3;rw[m7] at e5;cases e5;subst m7;have n1:iB (Kk Kq) x.name= (Kq.getD nk Qz.zero).cost:=by rw[pF hA,m6]
     have c8:wr.cell? ⟨nb,no+nk*3+1,none⟩=some (.a (iB (Kk Kq) x.name)):=by rw[n1];exact m9 1 _ (by rw[n0];rfl)
     let⟨X,i7⟩:=aj (iB (Kk Kq) x.name);rw[<-i7] at m3 s4 c8;have s5:Hid (∀r:Int,Dt Kq x.name r->r= (nk:Int)):=λr hr=>by
      rcases hr with⟨k2,h1,rfl,h3,h4,h5⟩|⟨_,h2⟩
      .rcases Ny k2 nk with j|j|j
       .exact NB h4 (m5 _ j)
       .rw[j]
       .exact NB m4 (h5 _ j)
      .rw[hA] at h2;cases h2
     have z3:IntKind.i64.wrap (y+x.Zq)=y+x.Zq:=dQ E5 E5;have z4:IntKind.i64.wrap (x.Zq*X)=x.Zq*X:=dQ E5 E5;have z5:IntKind.i64.wrap (s+x.Zq*X)=s+x.Zq*X:=dQ E5 E5;have s6:Hid (y+x.Zq=dm (l.take (i+1))/\s+x.Zq*X=fq (Kk Kq) (l.take (i+1))):=by
      rw[Ms b2,oU,qX,i6,<-HU.o.1,<-HU.o.2,<-i7];exact⟨rfl,rfl⟩
     have n2:=B.o.row.lt;have a0:Hid (∀u:NN,(∀b,b<w.heap.size+1+1\/b=h->u.heap[b]? =wr.heap[b]?)->M4 u h 3 (.a y)/\M4 u h 4 (.a s)/\M4 u (w.heap.size+1) 1 (.slice (some ⟨rb,ro,none⟩) l.length dc)/\M4 u rb (ro+i*7) (.string x.name)/\M4 u rb (ro+i*7+5) (.a x.Zq)/\M4 u w.heap.size 0 (.slice (some ⟨nb,no,none⟩) Kq.length cap)/\M4 u nb (no+nk*3+1) (.a X)):=λu J=>⟨(MC (w:=wr) (J h (.inr rfl))).trans B.o.c3,(MC (w:=wr) (J h (.inr rfl))).trans B.o.c4,(MC (w:=wr) (J (w.heap.size+1) (.inl E5))).trans T,(MC (w:=wr) (J rb (.inl E5))).trans t0,(MC (w:=wr) (J rb (.inl E5))).trans t5,(MC (w:=wr) (J w.heap.size (.inl E5))).trans P,(MC (w:=wr) (J nb (.inl E5))).trans c8⟩
     clear P Q t0 t5 c8 f6 m9 n1 i7 hx i6 m2 f7 hA m6 m4 m5 n0 HU;have z6:¬h=w.heap.size:=E5;go_upto_region 13 with fail
     clear T;refine mg 10 a0.o (λ_ _=>rfl) λN O z=>?_
     let⟨⟨_,c2⟩,c6⟩:=(B.o.kept O).row.row.at (i:=3) E5;have i8:=(B.o.kept O).row.lt;refine ak 0 z ?_;refine ak 4 z ?_;refine ae 8 z ?_;refine ae 9 z ?_;refine ai 10 λK H=>?_;go_simp
     refine af H (λj=>NB rfl j) ?_;clear H K;refine aC ?_;clear c6 c2 i8;let⟨W5,b3⟩:=aj (N.setCell ⟨h,3,none⟩ (.a (y+x.Zq)));rw[<-b3];have G:Hid (fK A h W5 Z (.slice n k q) (y+x.Zq) s):=by rw[b3];exact (B.o.kept O).Lx _
     have s7:Hid (W5.ownsRow A.heap.size 104 4 (.slice n k q) k (bB (Kj.map R))):=by
      rw[b3];have j:=au W.o O;exact (But.set (S:=λb=>b=h) (But.ax (K_.refl N)) (p:=⟨h,3,none⟩) rfl _).owns j (λb e e2=>by have:=(j.lt b e).1;omega)
     have s8:Hid (∀b,b≠h->b<wr.heap.size->W5.heap[b]? =wr.heap[b]?):=λb hb hz=>by rw[b3,Below.heap_setCell _ _ _ _ hb];exact O.block b hz
     have i9:Hid (∀u:NN,(∀b,b<w.heap.size+1+1\/b=h->u.heap[b]? =W5.heap[b]?)->M4 u h 4 (.a s)/\M4 u (w.heap.size+1) 1 (.slice (some ⟨rb,ro,none⟩) l.length dc)/\M4 u rb (ro+i*7) (.string x.name)/\M4 u rb (ro+i*7+5) (.a x.Zq)/\M4 u w.heap.size 0 (.slice (some ⟨nb,no,none⟩) Kq.length cap)/\M4 u nb (no+nk*3+1) (.a X)):=λu J=>by
      have ho:=a0.o wr λ_ _=>rfl;have d0:∀b o,b<w.heap.size+1+1->u.cell? ⟨b,o,none⟩=wr.cell? ⟨b,o,none⟩:=λb o hb=>(MC (w:=W5) (J b (.inl hb))).trans (MC (w:=wr) (s8.o b E5 E5))
      exact⟨(MC (w:=W5) (J h (.inr rfl))).trans G.o.c4,(d0 _ _ E5).trans ho.2.2.1,(d0 _ _ E5).trans ho.2.2.2.1,(d0 _ _ E5).trans ho.2.2.2.2.1,(d0 _ _ E5).trans ho.2.2.2.2.2.1,(d0 _ _ E5).trans ho.2.2.2.2.2.2⟩
     have s9:wr.heap.size<=W5.heap.size:=by rw[b3,size_setCell];exact O.size
     clear b3 O B W a0 z;clear N;go_upto_region 14 with fail
     refine mg 25 i9.o (λ_ _=>rfl) λN O z=>?_
     refine ak 0 z ?_;refine ak 4 z ?_;refine ak 8 z ?_;refine ak 12 z ?_;refine ae 16 z ?_;refine aG 17 λK H=>?_;go_simp
     go_at_call 61
     have t1:=(HC.o W5 G.o.but).2.2.2.2.1.trans O;refine (fe N (some ⟨nb,no,none⟩) cap Kq x.name d3 (hN.kept t1)).mono ?_;rintro e w6 ⟨⟨r,rfl,hr⟩,t2⟩;rw[s5.o r hr];have U:=O.trans t2;have a4:∀b,b<w.heap.size+1+1\/b=h->w6.heap[b]? =W5.heap[b]? :=λb hb=>U.block b E5
     have z7:(nk:Int)<(Kq.length:Int):=E5;clear hr;dsimp only;refine af H (λ_=>i9.o _ a4) ?_;clear H K z;have z:=i9.o _ a4;refine ak 18 z ?_;refine ae 22 z ?_;refine ae 23 z ?_;refine ae 24 z ?_;let⟨⟨_,c2⟩,c6⟩:=(G.o.kept U).row.row.at (i:=4) E5;have i8:=(G.o.kept U).row.lt;refine ai 25 λK H=>?_;go_simp
     refine af H (λj=>NB rfl j) ?_;clear H K;refine aC ?_;have f8:Hid (fK A h (w6.setCell ⟨h,4,none⟩ (.a (s+x.Zq*X))) Z (.slice n k q) (y+x.Zq) (s+x.Zq*X)):=(G.o.kept U).LB _;have t3:Hid ((w6.setCell ⟨h,4,none⟩ (.a (s+x.Zq*X))).ownsRow A.heap.size 104 4 (.slice n k q) k (bB (Kj.map R))):=by
      have j:=au s7.o U;exact (But.set (S:=λb=>b=h) (But.ax (K_.refl w6)) (p:=⟨h,4,none⟩) rfl _).owns j (λb e e2=>by have:=(j.lt b e).1;omega)
     clear c6 c2 i8 z;go_wp2
     go_roundw
     case rel=>exact⟨i+1,y+x.Zq,s+x.Zq*X,E5,F3,s6,f8,t3⟩
     case measure=>simp[intOf];omega
    .have z8:¬((i:Int)<(l.length:Int)):=E5;have n3:i=l.length:=E5;have b4:Hid (y=dm l/\s=fq (Kk Kq) l):=by have j:=HU.o;rw[n3,MS] at j;exact j
     have j0:Hid (mJ wr n (Kj.map R)):=by
      let⟨a9,c9,e9,t4⟩:=rE W.o;simp only[Nb] at e9;rw[e9.1];exact t4
     have z9:=Kz B.o.no;have b5:Hid ((Kj.map R).length=k):=by show _=_;rw[Nt];exact f5.o.symm
     have o0:=B.o.c0;have n2:=B.o.row.lt;clear b2 n3 HU W hi;rcases g5.o with⟨j1,c0⟩|⟨j1,n4⟩
     .subst j1;have t6:=Kz c0;have o1:=B.o.c1;have t7:=B.o.c2;have o3:=B.o.c3;have t8:=B.o.c4;have d1:Hid (gN Kq Kj l ⟨0,Kj.map R,[],y,s⟩):=⟨⟨by rw[b5.o];have:=f5.o;omega,Ml _⟩,.inl ⟨d4.o,⟨by rw[d8.o],b4.o.1,b4.o.2,.inl ⟨t6.o,rfl,rfl⟩⟩⟩⟩;clear c0;let⟨⟨⟨_,n5⟩,n6⟩,⟨⟨_,n7⟩,n8⟩,⟨⟨_,n9⟩,o2⟩,⟨⟨_,o4⟩,o5⟩,⟨_,o6⟩,o7⟩:=b1.o.row.rR;have o8:=b1.o.lt;go_wp2
      have hX:=Mo wr (w.heap.size+1+1) 0 [.a 0,.slice n k q,M3,.a y,.a s] (b1.o.row.there (o:=0) (m:=5) (Mj _));refine Zx [.a 0,.slice n k q,M3,.a y,.a s] _ results73 rfl hX underlying39 rfl Tryz.bP rfl ⟨_,n,none,q,0,?_,d1.o,?_,?_,?_⟩
      .show Ending.returned _=Ending.returned _;rw[b5.o];try rfl
      .exact h_ (vs:=[.a 0,.slice n k q,M3,.a y,.a s]) j0.o m1.o
      .exact (λi hi=>by cases hi)
      .exact aP (g:=w.heap.size+1+1) E5 [.a 0,.slice n k q,M3,.a y,.a s] 0 M.o
     .subst j1;have o9:=Kz n4;clear n4;have A0:=j7;go_wp2_with fail
      refine (uw wr a cap Kq V Kj.length rc d dc l d3 E5 (jZ d4.o.1) (λr hr _ _=>(d5.o.good r hr).act) (hN.kept M.o) (hS.kept M.o)).mono ?_;rintro e w5 ⟨⟨da,c5,ns,rfl,j2,t9⟩,k5⟩;have G:=Kz (B.o.kept k5);have p0:=Kz (j0.o.kept k5);have j3:=Kz (b1.o.kept k5);have v5:=Kz (m1.o.kept b1.o.lt k5);have v6:=M.o.trans k5;have A1:=G.o.row.lt;have p1:=Kz j2.mem;have A2:=j2.len;let⟨P,Q,T,_,_,_,_,s9⟩:=HC.o w5 G.o.but;have o0:=G.o.c0;clear j2 t9 B j0 b1 o0 n2;by_cases b6:ns.length=0
      .have m8:((ns.length:Int) == 0)=true:=by simpa using b6
       have v7:Hid (¬∃r∈l,aS (Kk Kq) (Qq l) r):=λ⟨r,h1,h2⟩=>by
        have j:=(p1.o r.name).2 ⟨r,h1,rfl,h2⟩;rw[MF.1 b6] at j;cases j
       have o0:=G.o.c0;let⟨⟨_,f0⟩,f4⟩:=G.o.row.row.at (i:=0) E5;let⟨W6,d2⟩:=aj (w5.setCell ⟨h,0,none⟩ (.a 1));have f8:Hid (fK A h W6 1 (.slice n k q) y s):=by rw[d2];exact G.o.set0 1
       have v8:Hid (mJ W6 n (Kj.map R)):=by rw[d2];exact pO p0.o G.o.no
       have r8:W6.heap.size=w5.heap.size:=by rw[d2,size_setCell]
       clear b6 P Q T;let⟨P,Q,T,_,p2,p3,p4,_⟩:=HC.o W6 f8.o.but;have⟨p5,v9,j4⟩:=di p3 p4 p2;clear p3 p4 p2;go_upto_region 17 with fail
       rw[<-d2];clear d2 f0 f4;go_wp2_with fail
       refine (sO W6 a cap Kq V Kj.length rc d dc l d3 E5 g0 d5.o (hN.kept j4.o) (hS.kept j4.o)).mono ?_;rintro e w7 ⟨E,F,C,rfl,c8,p6,j5,k7⟩;have Y:=Kz (f8.o.kept k7);have d1:Hid (gN Kq Kj l ⟨1,Kj.map R,C,y,s⟩):=⟨⟨by rw[b5.o];have:=f5.o;omega,by
        have h1:=j5.len iH;rw[Nt] at h1;show C.length<=60;omega⟩,.inl ⟨d4.o,⟨by rw[d8.o],b4.o.1,b4.o.2,.inr (.inr ⟨o9.o,v7.o,rfl,j5.Ko iH⟩)⟩⟩⟩
       have p7:=Kz (uV (g:=h) (o:=2) (v:=.slice E C.length F) p6 Y.o.no);have p8:=Kz (pO (g:=h) (o:=2) (v:=.slice E C.length F) (v8.o.kept k7) Y.o.no);have f9:Hid (ay (w7.setCell ⟨h,2,none⟩ (.slice E C.length F)) (w.heap.size+1+1) 39 5):=(p5.o.kept k7).block (Below.heap_setCell _ _ _ _ (by show w.heap.size+1+1≠h;omega));have j6:Hid (jC (w7.setCell ⟨h,2,none⟩ (.slice E C.length F)) (w.heap.size+1+1)):=λo g4 e=>v9.o.kept p5.o.lt k7 o g4 ((Zj E5).symm.trans e)
       have p9:Hid (K_ w (w7.setCell ⟨h,2,none⟩ (.slice E C.length F))):=(j4.o.trans k7).setCell (by show w.heap.size<=h;omega) _;have⟨q0,q1,q3,q4⟩:M4 (w7.setCell ⟨h,2,none⟩ (.slice E C.length F)) h 0 (.a 1)/\M4 (w7.setCell ⟨h,2,none⟩ (.slice E C.length F)) h 1 (.slice n k q)/\M4 (w7.setCell ⟨h,2,none⟩ (.slice E C.length F)) h 3 (.a y)/\M4 (w7.setCell ⟨h,2,none⟩ (.slice E C.length F)) h 4 (.a s):=⟨miss Y.o.c0 E8,miss Y.o.c1 E8,miss Y.o.c3 E8,miss Y.o.c4 E8⟩;have q2:M4 (w7.setCell ⟨h,2,none⟩ (.slice E C.length F)) h 2 (.slice E C.length F):=aR Y.o.row.row E5 _;have w0:h<(w7.setCell ⟨h,2,none⟩ (.slice E C.length F)).heap.size:=by rw[size_setCell];exact Y.o.row.lt
       let⟨⟨_,f0⟩,f4⟩:=Y.o.row.row.at (i:=2) E5;have A3:=Y.o.row.lt;let⟨W8,a2⟩:=aj (w7.setCell ⟨h,2,none⟩ (.slice E C.length F));rw[<-a2] at p7 p8 f9 j6 p9 q0 q1 q2 q3 q4 w0;clear c8 p6 j5 P Q T Y;go_upto_region 18 with fail
       rw[<-a2];clear a2 f0 f4;let⟨⟨⟨_,n5⟩,n6⟩,⟨⟨_,n7⟩,n8⟩,⟨⟨_,n9⟩,o2⟩,⟨⟨_,o4⟩,o5⟩,⟨_,o6⟩,o7⟩:=f9.o.row.rR;have o8:=f9.o.lt;go_wp2
       have hX:=Mo W8 (w.heap.size+1+1) 0 [.a 1,.slice n k q,.slice E C.length F,.a y,.a s] (f9.o.row.there (o:=0) (m:=5) (Mj _));refine Zx [.a 1,.slice n k q,.slice E C.length F,.a y,.a s] _ results73 rfl hX underlying39 rfl Tryz.bP rfl ⟨_,n,E,q,F,?_,d1.o,?_,?_,?_⟩
       .show Ending.returned _=Ending.returned _;rw[b5.o];try rfl
       .exact h_ (vs:=[.a 1,.slice n k q,.slice E C.length F,.a y,.a s]) p8.o j6.o
       .exact nS (vs:=[.a 1,.slice n k q,.slice E C.length F,.a y,.a s]) p7.o j6.o
       .exact aP (g:=w.heap.size+1+1) E5 [.a 1,.slice n k q,.slice E C.length F,.a y,.a s] 0 p9.o
      .have m8:((ns.length:Int) == 0)=false:=by simpa using b6
       have w2:Hid (∃r∈l,aS (Kk Kq) (Qq l) r):=by
        obtain⟨a5,hn⟩:∃a5,a5∈ns:=List.exists_mem_of_ne_nil _ (λe=>b6 (by rw[e];rfl));let⟨r,h1,_,h2⟩:=(p1.o a5).1 hn;exact⟨r,h1,h2⟩
       have o0:=G.o.c0;have o1:=G.o.c1;have t7:=G.o.c2;have o3:=G.o.c3;have t8:=G.o.c4;have d1:Hid (gN Kq Kj l ⟨2,Kj.map R,[],y,s⟩):=⟨⟨by rw[b5.o];have:=f5.o;omega,Ml _⟩,.inl ⟨d4.o,⟨by rw[d8.o],b4.o.1,b4.o.2,.inr (.inl ⟨o9.o,w2.o,rfl,rfl⟩)⟩⟩⟩;clear b6 P Q T;let⟨⟨⟨_,n5⟩,n6⟩,⟨⟨_,n7⟩,n8⟩,⟨⟨_,n9⟩,o2⟩,⟨⟨_,o4⟩,o5⟩,⟨_,o6⟩,o7⟩:=j3.o.row.rR;have o8:=j3.o.lt;go_wp2
       have hX:=Mo w5 (w.heap.size+1+1) 0 [.a 2,.slice n k q,M3,.a y,.a s] (j3.o.row.there (o:=0) (m:=5) (Mj _));refine Zx [.a 2,.slice n k q,M3,.a y,.a s] _ results73 rfl hX underlying39 rfl Tryz.bP rfl ⟨_,n,none,q,0,?_,d1.o,?_,?_,?_⟩
       .show Ending.returned _=Ending.returned _;rw[b5.o];try rfl
       .exact h_ (vs:=[.a 2,.slice n k q,M3,.a y,.a s]) p0.o v5.o
       .exact (λi hi=>by cases hi)
       .exact aP (g:=w.heap.size+1+1) E5 [.a 2,.slice n k q,M3,.a y,.a s] 0 v6
theorem Jt{W:dC}{σ:Env}(d:xM σ){n:NL}{f:Bool}{t:NL}{a:Bool}(h:bD W σ n=if a=true then some ⟨f,t⟩ else none)(e:a=false->∃r,σ n=some r/\f=r.fail/\t=r.text):pu W σ n= ⟨n,a,f,t⟩:=by
 unfold pu;cases a
 .rw[h];let⟨r,b,i,j⟩:=e rfl;have k:r.over=false:=by
   unfold bD at h;cases c:W n with
   |none=>rw[c] at h;cases h
   |some A=>
    rw[c,b] at h;simp only at h;cases l:r.over
    .rfl
    .rw[l] at h;cases h
  let⟨m,p⟩:=d n r b k;rw[i,j,m,p]
  rfl
 .rw[h]
  rfl
section
variable {G:cZ}{Kq:List Qz}{wz w w':NN}{bb:Nat}{a:NM}{cap:Nat}{rd:NM}{rn rc:Nat}{mb mx:Nat}{ts:List Zk}{d:NM}{dc:Nat}{f:NL -> NP}{ws:NL -> List Nat}
theorem yt(J:BM G Kq wz w bb a cap rd rn rc mb mx ts d dc f ws)(K:xM (Qq (Qj ts)))(hl:ts.length<=1048576)(L:NM)(a3:Nat)(Kj:List NL)(c3:Kj.length<=1000)(M:∀n∈Kj,n.size<=1000/\((∃t∈ts,t.r.name=n)\/Kk Kq n=none))(B:∀n∈Kj,(pu (Kk Kq) (Qq (Qj ts)) n).text.size<=1048576)(N:Strs w L Kj):Calls prog 95 #[.slice L Kj.length a3,.func (.func 127) #[.c bb] #[]] w λe w'=>∃a',e=.returned (.slice a' Kj.length Kj.length)/\iA w' w.heap.size w'.heap.size a' (Kj.map (pu (Kk Kq) (Qq (Qj ts))))/\K_ w w':=by
 let⟨R,C⟩:=aj (pu (Kk Kq) (Qq (Qj ts)));rw[<-C] at B⊢;have⟨O,HB,a4,D,a5⟩:=jh C J K M B;have HR:=Kz N;clear C J K M B N;go_enter func95,ntmps95
 go_wp2
 go_loopw [5,12] (λx5 E wr=>∃(k:Nat)(l:NM)(p:Nat),k<=Kj.length/\E=.a (k:Int)/\x5=.slice l k p/\Hid (wr.ownsRow w.heap.size 104 4 (.slice l k p) k (bB ((Kj.take k).map R)))/\K_ w wr) (λ_ E _=>Kj.length-(intOf E).toNat)
 case atStart=>exact⟨0,none,0,Ml _,rfl,rfl,Kz (Nj _ _ _ _),K_.refl _⟩
 case round=>
  obtain⟨k,l,p,hk,rfl,rfl,P,m⟩:=hrel;by_cases q:k<Kj.length;rotate_left
  .have c4:¬((k:Int)<(Kj.length:Int)):=E5;have v:k=Kj.length:=E5;have a6:Hid (mJ wr l (Kj.map R)):=by
    have Q:=P.o;rw[v,MS] at Q;let⟨a9,c5,S,h9⟩:=rE Q;simp only[Nb] at S;rw[S.1];exact h9
   have T:(Kj.map R).length=k:=by rw[Nt];exact v.symm
   have⟨a7,a8⟩:=aH T v;clear q v T;go_wp2_with fail
   have s:=BO wr l p (Kj.map R) (by rw[Nt];omega) (λc6 s=>by
    obtain⟨n,U,rfl⟩:=MM.1 s;have h1:=(D.o n U).1;refine⟨?_,a5.o n U⟩;have:(R n).name=n:=by rw[O.o];unfold pu;cases bD (Kk Kq) (Qq (Qj ts)) n<;>rfl
    rw[this];omega) a6.o
   rw[a7.o] at s;refine s.mono ?_;rintro e w2 ⟨b0,rfl,V,k2⟩;have HI:=Kz V;clear V s;go_wp2
   go_ret
   exact⟨b0,by rw[a8.o];rfl,HI.o.mono m.size (Mj _),m.trans k2⟩
  have c7:(k:Int)<(Kj.length:Int):=E5;let⟨sb,so,e1,b1,W⟩:=(HR.o.kept m) k q;subst e1;let⟨b,F⟩:=aj (Kj.getD k ByteArray.empty);rw[<-F] at W;have H:Kj[k]=b:=by rw[F];simp[List.getD,q]
  have X:b∈Kj:=by rw[<-H];exact Mw q
  have⟨b2,Y⟩:=aH H X;clear F H X;go_wp2_with fail
  refine (mO (HB.o.kept m) b hl (D.o b Y.o).1 (D.o b Y.o).2).mono ?_;rintro e i ⟨⟨c,h,j,rfl,Z,a0⟩,x⟩;have b3:Hid (R b= ⟨b,j,c,h⟩):=by rw[O.o];exact Jt a4.o Z a0
  have y:K_ i ((i.alloc (.cells #[.bool c,.string h] 100)).alloc (.cells #[.string b,.bool j,.bool c,.string h] 104)):=(ah _ _).alloc _;have r0:=X_ i #[.bool c,.string h] 100 0 _ rfl;have r1:=X_ i #[.bool c,.string h] 100 1 _ rfl;simp only[MR] at r0 r1;have a1:=Kz (au P.o (x.trans y));have b4:=(m.trans (x.trans y)).size;have b5:Hid (∀z u,([.string b,.bool j,.bool c,.string h]:List NP)[z]? =some u->((i.alloc (.cells #[.bool c,.string h] 100)).alloc (.cells #[.string b,.bool j,.bool c,.string h] 104)).cell? ((⟨i.heap.size+1,0,none⟩:Addr).add z)=some u):=λz u A=>by have:=X_ (i.alloc (.cells #[.bool c,.string h] 100)) #[.string b,.bool j,.bool c,.string h] 104 z u A;rw[MZ] at this;rw[Nf];exact this
  have b6:Hid (∀u∈([.string b,.bool j,.bool c,.string h]:List NP),u.oneCell'=true):=λu A=>by simp only[Nh,Ni,or_false] at A;rcases A with rfl|rfl|rfl|rfl<;>rfl
  have KK:=Kz (m.trans (x.trans y));let⟨ic,b7,b8,b9,c0⟩:=aW Tryz.og;clear x y Z a0 W b1;go_wp2_with (at_builtin;refine wpList_append_own _ rfl (.tmp 22) (.tmp 30) 37 rfl w.heap.size 104 ic _ 4 40 underlying37 b7 b8 b9 c0 rfl E8 (.slice l k p) k (bB ((Kj.take k).map R)) rfl a1.o ⟨i.heap.size+1,0,none⟩ 1 1 [.string b,.bool j,.bool c,.string h] rfl rfl b5.o b6.o F5 E5 b4 ?_;intro v' w6 I a2 _;have KP:=aK KK.out (Mj _) a1.o a2;have HP:=Kz I;obtain⟨c1,c2,rfl⟩:=aF I;clear I a2)
  go_roundw
  case rel=>
   refine⟨k+1,c1,c2,E5,F3,rfl,Kz ?_,KP⟩;rw[Ms q,ND,List.map_cons,List.map_nil,b2.o,b3.o,lD];exact HP.o
  case measure=>simp[intOf];omega
end
attribute [local go_sem] Oper.semAt_some
theorem qQ{P:Program}{e:Func}{c:Array NP}{w:NN}{p:Tmp}{a:TypeId}{b:Nat}(v:NP)(d:TypeDesc)(h:e.results= #[.cell p a])(f:c.getD p undef=.c b)(i:w.cell? ⟨b,0,none⟩=some v)(j:P.underlying a=some d)(n:d.isRow=false):(results e c).run P w=.ok v w:=by
 have k:c[p]?.getD undef=.c b:=by simpa using f
 have l:(isAgg a).run P w=.ok false w:=by
  unfold isAgg;rw[Sem.run_bind,run_underlying j w];cases d<;>simp_all
 have m:(loadVar a ⟨b,0,none⟩).run P w=.ok v w:=by simp[loadVar,Sem.run_bind,l,i]
 simp only[results,h];simp[k,asAddr,m]
def AnI(w1:NN)(c:Nat)(Kq:List Qz)(ts:List Zk)(i:Nat)(W:NN):Prop:=K_ w1 W/\ay W c 4 1/\∀r∈(Qj ts).take i,¬aS (Kk Kq) (Qq (Qj ts)) r
def AnX(w1:NN)(c:Nat)(Kq:List Qz)(ts:List Zk)(x:Code)(W:NN):Prop:=x=.ret/\K_ w1 W/\ay W c 4 1/\W.cell? ⟨c,0,none⟩=some (.bool true)/\∃r∈Qj ts,aS (Kk Kq) (Qq (Qj ts)) r
theorem AnI.calm{w1:NN}{c:Nat}{Kq:List Qz}{ts:List Zk}{i B:Nat}(m:w1.heap.size<=c)(n:c<B):Calm B (AnI w1 c Kq ts i):=by
 constructor
 .rintro W o p ⟨k,a,d⟩;have f:=(K_.refl W).alloc o;exact⟨k.trans f,a.kept f,d⟩
 .rintro W l o j q r s ⟨k,a,d⟩;have h:But (λb=>b=l) W (W.putObj l j):=⟨rfl,rfl,rfl,G7,λb _ e=>World.putObj_heap_other e⟩;exact⟨h.kept k (λb e=>by rw[e];omega),h.row a λ(e:c=l)=>E5,d⟩
theorem AnX.calm{w1:NN}{c:Nat}{Kq:List Qz}{ts:List Zk}{x:Code}{B:Nat}(n:w1.heap.size<=c)(p:c<B):Calm B (AnX w1 c Kq ts x):=by
 constructor
 .rintro W o q ⟨b,k,a,d,f⟩;have h:=(K_.refl W).alloc o;exact⟨b,k.trans h,a.kept h,(h.cell a.lt).trans d,f⟩
 .rintro W l o j r s t ⟨b,k,a,d,f⟩;have m:But (λi=>i=l) W (W.putObj l j):=⟨rfl,rfl,rfl,G7,λi _ e=>World.putObj_heap_other e⟩;exact⟨b,m.kept k (λi e=>by rw[e];omega),m.row a λ(e:c=l)=>E5,(gU j E5).trans d,f⟩
section
variable {G:cZ}{Kq:List Qz}{wz w w':NN}{bb:Nat}{a:NM}{cap:Nat}{rd:NM}{rn rc:Nat}{mb mx:Nat}{ts:List Zk}{d:NM}{dc:Nat}{f:NL -> NP}{ws:NL -> List Nat}
theorem Bl(K:BM G Kq wz w bb a cap rd rn rc mb mx ts d dc f ws)(L:BS Kq ts ws)(a0:ts.length<=60):Calls prog 128 #[.c bb] w λe w'=>Says e (∃r∈Qj ts,aS (Kk Kq) (Qq (Qj ts)) r)/\K_ w w':=by
 have⟨s,M⟩:=aH K L;refine (callsIn_wide (n:=9)).1 ?_;refine callsIn_of_wp_marks func128 rfl trivial ?_ rfl;simp only[ntmps128,List.size_toArray,Nc,List.length_nil,Nat.reduceAdd,Nat.reduceSub,Array.replicate_succ,Array.replicate_zero,List.push_toArray,List.append_toArray,List.nil_append,List.cons_append]
 gi_wp2_with fail
 obtain⟨m,t⟩:∃m,w.alloc (.cells #[.bool false] 4)=m:=⟨_,rfl⟩;rw[t];have C:K_ w m:=by rw[<-t];exact ah _ _
 have z0:m.heap.size=w.heap.size+1:=by rw[<-t];simp
 have N:Hid (ay m w.heap.size 4 1):=by rw[<-t];exact ay.made w #[.bool false] 4
 have a1:=s.o.row.lt;have O:=(s.o.kept C).c3;refine nW (mf bb d ts.length dc (ig ts) E5) rfl (enters_of func71 F4 rfl) (vL E5) O (λ_=>rfl)
  (AnI w w.heap.size Kq ts) (AnX w w.heap.size Kq ts) (λi=>AnI.calm (Mj _) E5) (λ_=>AnX.calm (Mj _) E5)
  ⟨C,N.o,λr p=>by simp at p⟩
  (λi=>{tmps:= #[.c bb,undef,.c w.heap.size,.c bb,.func (.func 71) #[.c bb] #[],.c (ig ts i)],defers:=[]}) ?assign (λi=>qp λg e=>by have:=(s.o.apart e).1;omega) ?step ?done ?stop
 case assign=>
  intro l i W a2 P
  gi_wp2
  simpa using P
 case step=>
  rintro i W v ⟨k,c,j⟩;have E:(Qj ts).take (i+1)= (Qj ts).take i++[ts[i].r]:=by
   rw[Ms (by simpa[Qj] using v)];simp[Qj]
  rcases (s.o.kept k).sees M.o v with⟨F,p⟩|⟨Q,p⟩;rotate_left
  .refine .inr ⟨Q,k,c,λr H=>?_⟩;rw[E] at H;rcases Mv.1 H with h|h
   .exact j r h
   .rw[Mt] at h;rw[h];exact p
  refine .inl ⟨F,?_⟩;have R:Hid (∃r∈Qj ts,aS (Kk Kq) (Qq (Qj ts)) r):=⟨_,MM.2 ⟨ts[i],Mw v,rfl⟩,p⟩;clear F p E j c k;rintro l W _ ⟨k,c,j⟩ a3;let⟨⟨_,x⟩,y⟩:=c.row.at (i:=0) E5;have S:=c.lt;have T:Hid (KeepsFrom m.heap.size W (W.setCell ⟨w.heap.size,0,none⟩ (.bool true))):=((KeepsOthers.refl W).trans (KeepsOthers.setCell _ _ _)).from _
  have q:Hid (AnX w w.heap.size Kq ts .ret (W.setCell ⟨w.heap.size,0,none⟩ (.bool true))):=⟨rfl,k.setCell (Mj _) _,c.set _,aR c.row E5 _,R.o⟩;clear c j k
  gi_wp2
  exact⟨T.o,q.o⟩
 case done=>
  rintro D W U ⟨k,c,j⟩ z;have I:(Qj ts).take ts.length=Qj ts:=MU (by simp[Qj]);rw[I] at j;have V:Hid (¬∃r∈Qj ts,aS (Kk Kq) (Qq (Qj ts)) r):=λ⟨r,x,y⟩=>j r x y
  let⟨⟨_,x⟩,y⟩:=c.row.at (i:=0) E5;have S:=c.lt;have X:w.heap.size<D:=E5;have a4:=Kz c;have q:Hid (K_ w ((W.setCell ⟨w.heap.size,0,none⟩ (.bool false)).putObj D (.deferred none))):=by
   have A:But (λb=>b=D) (W.setCell ⟨w.heap.size,0,none⟩ (.bool false)) ((W.setCell ⟨w.heap.size,0,none⟩ (.bool false)).putObj D (.deferred none)):=⟨rfl,rfl,rfl,G7,λb _ e=>World.putObj_heap_other e⟩;exact A.kept (k.setCell (Mj _) _) (λb e=>by rw[e];omega)
  have Y:(W.setCell ⟨w.heap.size,0,none⟩ (.bool false)).heap[D]? =some (.deferred (some [])):=(Below.heap_setCell _ _ _ _ (by show D≠w.heap.size;omega)).trans z;have B:Hid (M4 ((W.setCell ⟨w.heap.size,0,none⟩ (.bool false)).putObj D (.deferred none)) w.heap.size 0 (.bool false)):=(gU _ E5).trans (aR c.row E5 _);clear c j I k
  gi_wp2
  exact⟨E9,.inl ⟨_,_,rfl,run_takeDeferred Y,_,qQ (b:=w.heap.size) (.bool false) _ results128 rfl B.o underlying4 rfl,Says.no V.o,q.o⟩⟩
 case stop=>
  rintro D a5 W U ⟨rfl,k,c,j,J⟩ z;have X:w.heap.size<D:=E5;have q:Hid (K_ w (W.putObj D (.deferred none))):=by
   have A:But (λb=>b=D) W (W.putObj D (.deferred none)):=⟨rfl,rfl,rfl,G7,λb _ e=>World.putObj_heap_other e⟩;exact A.kept k (λb e=>by rw[e];omega)
  have B:Hid (M4 (W.putObj D (.deferred none)) w.heap.size 0 (.bool true)):=(gU _ E5).trans j;have Z:=Kz J;clear c j J k
  gi_wp2
  exact⟨E9,.inl ⟨_,_,rfl,run_takeDeferred z,_,qQ (b:=w.heap.size) (.bool true) _ results128 rfl B.o underlying4 rfl,Says.yes Z.o,q.o⟩⟩
end
