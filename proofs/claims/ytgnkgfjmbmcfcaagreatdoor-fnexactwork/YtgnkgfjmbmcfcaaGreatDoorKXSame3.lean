import Derived.Test.YtgnkgfjmbmcfcaaGreatDoorKVAppr
import Derived.Laws.AppendOwnNone
import Derived.BigQuiet
import Derived.Deep.RegionLaw
import Derived.Test.YtgnkgfjmbmcfcaaGreatDoorKOConcat
set_option maxRecDepth 100000
set_option maxHeartbeats 25600000
namespace Go.Proofs.YtgnkgfjmbmcfcaaGreatDoor
open Go.RowKit Go.Proofs.Tryz
theorem CW(w:Qy)(a:Qx)(cap:Nat)(l:List Q_)(r:Q_)(xa:Qx)(xc:Nat)(hl:l.length<=100000)(i3:r.texts.length<=1000)(hr:dB l)(P:Nat->Prop)(d5:∀b,w.heap.size<=b->P b)(hS:nM w P a l)(hT:Strs w xa r.texts)(hX:xa=none->xc=0):
  Calls prog 98 #[.slice a l.length cap,.agg #[.string r.name,.bool r.over,.bool r.fail,.string r.text,.int .i64 r.at',.int .i64 r.Zq,.slice xa r.texts.length xc]] w
   fun e w'=>∃v,e= .returned v/\LC w w' P v (dI l r)/\K_ w w':=by
 have⟨d6,g2,d7⟩:=bA hX hr d5;clear hX hr d5;obtain⟨d,L⟩:=ag (w.alloc (.cells #[.string r.name,.bool r.over,.bool r.fail,.string r.text,.int .i64 r.at',.int .i64 r.Zq,.slice xa r.texts.length xc] 103));have kB:K_ w d:=by rw[L];exact ak _ _
 have g3:w.heap.size+1<=d.heap.size:=by rw[L];simp
 have d8:og d w.heap.size r xa xc:=by
  rw[L];exact⟨aL.made w #[.string r.name,.bool r.over,.bool r.fail,.string r.text,.int .i64 r.at',.int .i64 r.Zq,.slice xa r.texts.length xc] 103,X_ w _ _⟩
 have⟨a4,F⟩:=aD kB d8;clear kB d8;go_enter func98,ntmps98
 go_upto_region 1 with fail
 rw[<-L];clear L;have a5:Hid (K_ d (d.alloc (.cells #[] 9))):=ak _ _;have a6:Hid ((d.alloc (.cells #[] 9)).ownsRow d.heap.size 9 1 (.slice (some ⟨d.heap.size,0,none⟩) 0 0) 0 (([]:List Qw).map Value.string)):=Pz d #[] 0 (OU _) (OW _) rfl;obtain⟨ic,b6,d9,e0,e1⟩:=aN Tryz.fJ;go_cut [3] from 8 to 57 (fun s3 E=>∃j s,s3= .pointer (some ⟨w.heap.size,0,none⟩)/\K_ w E/\og E w.heap.size r j s/\Strs E j r.texts/\(j=none->s=0)/\(∀y:Addr,j=some y->P y.block))
 case first=>
  obtain⟨q0,q1,q2,q3,q4,q5,q6⟩:=F.o.all;have qz:=F.o.row.lt;obtain⟨_,g6⟩:=F.o.row.row.at (i:=6) (by omega);rcases (show xa=none\/∃y,xa=some y from by cases xa with|none=>exact .inl rfl|some x=>exact .inr ⟨x,rfl⟩) with rfl|⟨y,rfl⟩
  ·have h0:r.texts=[]:=by
    cases g4:r.texts with
    | nil=>rfl
    | cons t ts=>exfalso;obtain⟨b,o,e,_⟩:=hT 0 (by rw[g4];simp);cases e
   have e2:=d6.o rfl;have e3:d.cell? ⟨w.heap.size,6,none⟩=some (.slice none 0 0):=by rw[q6,h0,e2];rfl
   have H0:=Kz h0;clear q6 h0 e2;have q6:=e3;clear e3;go_wp2_with (at_builtin;refine wpList_append_own_none _ rfl (.tmp 8) (.tmp 10) 25 rfl d.heap.size 9 ic 1 underlying25 b6 (.slice (some ⟨d.heap.size,0,none⟩) 0 0) 0 [] rfl a6.o rfl ?_)
   go_meet
   exact⟨_,_,rfl,K_.alloc (Below.setCell a4.o (p:=⟨w.heap.size,6,none⟩) (OU _) _) _,(F.o.put (xa':=some ⟨d.heap.size,0,none⟩) (xc':=0) (by omega) (by simp[Q_.cells,H0.o])).kept (ak _ _),(fun a7 hi=>by rw[H0.o] at hi;cases hi),(fun e=>by cases e),fun y e=>by cases e;exact d7.o _ (by show w.heap.size<=d.heap.size;omega)⟩
  ·have g5:Hid (∀m u,(r.texts.map Value.string)[m]? =some u->(d.alloc (.cells #[] 9)).cell? (y.add m)=some u):=fun m u p=>by
    have hj:m<r.texts.length:=by have:=(O_.1 p).1;simpa using this
    obtain⟨b,o,e,h,q⟩:=(hT.kept (a4.o.trans a5.o)) m hj;simp only[PN] at e;subst e;rw[PQ,q];simp[hj] at p;simp[List.getD,hj,p]
   have g7:Hid (∀u∈r.texts.map Value.string,u.oneCell'=true):=fun u p=>by obtain⟨x,_,rfl⟩:=Pv.1 p;rfl
   have g8:d.heap.size<=(d.alloc (.cells #[] 9)).heap.size:=a5.o.size;go_wp2_with (at_builtin;refine wpList_append_own _ rfl (.tmp 8) (.tmp 10) 25 rfl d.heap.size 9 ic _ 1 16 underlying25 b6 d9 e0 e1 rfl (by decide) (.slice (some ⟨d.heap.size,0,none⟩) 0 0) 0 [] rfl a6.o y r.texts.length xc (r.texts.map Value.string) rfl (by simp) g5.o g7.o (by unfold maxLen;omega) (by omega) g8 ?_;intro v1 w8 a8 e4 _;rw[PD,List.nil_append] at a8;have e5:=aC a5.o (OU _) a6.o e4;have g9:=Kz a8;obtain⟨h1,h2,rfl⟩:=aG a8;have a9:=Kz (F.o.kept e5);have i4:=a9.o.all.2.2.2.2.2.2;have i5:=a9.o.row.lt;obtain⟨_,i6⟩:=a9.o.row.row.at (i:=6) (by omega);clear a8 e4)
   go_meet
   obtain⟨j,s,ev,b0,M,b1⟩:=IK (c:=w.heap.size) (p:=6) (u:= .slice h1 r.texts.length h2) g9.o (by omega);simp only[PO] at ev;obtain⟨rfl,_,rfl⟩:=ev;exact⟨_,_,rfl,Below.setCell (a4.o.trans e5) (p:=⟨w.heap.size,6,none⟩) (OU _) _,a9.o.put (by omega) rfl,b0,M,fun y e=>d7.o _ (OX (by omega) (b1 y e))⟩
 case rest=>
  obtain⟨j,s,rfl,k2,b7,b0,e6,b1⟩:=hcut;obtain⟨f,rfl⟩:=ag wc;obtain⟨b8,b9,c7,M,c8⟩:=aN Tryz.EE;have G:=Kz b7;have h4:=Kz (hS.kept k2);have⟨b2,e7,e8,e9⟩:=oZ k2 b0 e6 b1;have i7:=b7.row.lt;clear b0 e6 b1 b7 k2 hS hT d6 a4 F a5 a6 b6 d9 e0 e1 g3;go_wp2
  go_loopw [5,6,7] (fun out dn a7 wr=>∃k:Nat,k<=l.length/\a7= .int .i64 k/\dn= .bool (uM l r k).2/\Nh f wr P out (uM l r k)) (fun _ _ a7 _=>l.length-(intOf a7).toNat)
  case atStart=>
   exact⟨0,OW _,rfl,rfl,[],Pz f #[] 0 (OU _) (OW _) rfl,cK.nil _ _,ak _ _⟩
  case round=>
   obtain⟨k,hk,rfl,c9,xs,z,A,B⟩:=hrel;have f0:=CX (l:=l) (r:=r) hk;obtain⟨h5,hp⟩:=ag (uM l r k);rw[<-hp] at c9 z A f0;obtain⟨g,i⟩:=h5;dsimp only at c9 z A f0;subst c9;have⟨N,O,f1⟩:=bA A z hp;clear A z hp;obtain⟨Q,R,S,T,U,V,W⟩:=(G.o.kept B).all;have X:=(G.o.kept B).row.lt;have hz:=B.size;by_cases f2:k<l.length
   ·obtain⟨b,o,xa,ca,rfl,h,q,d0,f3,f4⟩:=h4.o k f2;have d1:=Kz (Bd (r:=r) f2);obtain⟨x,hx⟩:=ag (l.getD k Q_.zero);rw[<-hx,<-f1.o] at d1;rw[<-hx] at q d0;have HC:Hid (∀w',K_ f w'->b<w'.heap.size/\w'.cell? ⟨b,o+k*7,none⟩=some (.string x.name)/\w'.cell? ⟨b,o+k*7+1,none⟩=some (.bool x.over)/\w'.cell? ⟨b,o+k*7+2,none⟩=some (.bool x.fail)/\w'.cell? ⟨b,o+k*7+3,none⟩=some (.string x.text)/\w'.cell? ⟨b,o+k*7+4,none⟩=some (.int .i64 x.at')/\w'.cell? ⟨b,o+k*7+5,none⟩=some (.int .i64 x.Zq)/\w'.cell? ⟨b,o+k*7+6,none⟩=some (.slice xa x.texts.length ca)):=fun w' K=>⟨OV h K.size,(K.cell h).trans (q 0 _ rfl),(K.cell h).trans (q 1 _ rfl),(K.cell h).trans (q 2 _ rfl),(K.cell h).trans (q 3 _ rfl),(K.cell h).trans (q 4 _ rfl),(K.cell h).trans (q 5 _ rfl),(K.cell h).trans (q 6 _ rfl)⟩
    have⟨h6,h7,h8⟩:=bA d0 f3 f4;clear q d0 f3 f4 hx;obtain⟨h,c0,c1,c2,c3,c4,c5,c6⟩:=HC.o wr B;have i8:(k:Int)<(l.length:Int):=by omega
    go_upto_region 7 with fail
    go_cut [31] from 14 to 50 (fun c E=>c= .bool (!i && !Op.bytesLess x.name.toList r.name.toList)/\∃n,E=wr.drewN n)
    case first=>
     cases i
     ·cases b3:Op.bytesLess x.name.toList r.name.toList
      ·go_quiet (fail)
       go_wp2
       go_meet
       exact⟨by rw[b3];rfl,nq,rfl⟩
      ·go_quiet (fail)
       go_wp2
       go_meet
       exact⟨by rw[b3];rfl,nq,rfl⟩
     ·go_quiet (fail)
      go_wp2
      go_meet
      exact⟨rfl,nq,rfl⟩
    case rest=>
     obtain⟨rfl,nq,d2⟩:=hcut;obtain⟨wq,rfl⟩:=ag wc;have Y:K_ f wq:=(by rw[d2];exact B.drewN nq);have b4:Hid (wq.ownsRow f.heap.size 103 7 u5 g.length xs):=(by rw[d2];exact O.o);clear Q R S T U V W X d2 c0 c1 c2 c3 c4 c5 c6 h;obtain⟨Q,R,S,T,U,V,W⟩:=(G.o.kept Y).all;have X:=(G.o.kept Y).row.lt;have i9:=Y.size;obtain⟨cb,d3⟩:=ag ((!i && !Op.bytesLess x.name.toList r.name.toList));rw[<-d3];have d4:=Kz d3;clear d3;go_upto_if 31 with fail
     go_cut [5,6] from 14 to 50 (fun o6 h9 E=>h9= .bool (rq r (g,i) x).2/\Nh f E P o6 (rq r (g,i) x))
     case first=>
      cases cb
      ·go_wp2
       go_meet
       have e:rq r (g,i) x= (g,i):=(by unfold rq;rw[if_neg];rintro⟨f5,i0⟩;have h3:=d4.o;dsimp only at f5;rw[f5,i0] at h3;cases h3);rw[e];exact⟨rfl,xs,b4.o,N.o,Y⟩
      ·go_wp2_with (at_builtin;refine wpList_append_own _ rfl (.tmp 32) (.tmp 34) 51 rfl f.heap.size 103 b8 _ 7 80 underlying51 b9 c7 M c8 rfl (by decide) _ g.length _ rfl (ai b4.o (by repeat (first | (with_reducible exact K_.refl _) | apply K_.alloc | apply K_.drewN | apply K_.drew))) ⟨wq.heap.size,0,none⟩ 1 1 (r.cells j s) rfl rfl (fun m u p=>(by rw[PQ];exact X_ wq (r.cells j s).toArray 103 m u (by simpa using p))) (Q_.one r j s) (by unfold maxLen;omega) (by omega) (by simp;omega) ?_;intro v6 Z C D _;have H:K_ f Z:=aC (Y.trans (by repeat (first | (with_reducible exact K_.refl _) | apply K_.alloc | apply K_.drewN | apply K_.drew))) (by omega) (ai b4.o (by repeat (first | (with_reducible exact K_.refl _) | apply K_.alloc | apply K_.drewN | apply K_.drew))) D;have a0:=Kz C;clear C D)
       go_meet
       have e:rq r (g,i) x= (g++ [r],true):=(by unfold rq;rw[Qg];have h3:=d4.o;cases i <;> cases b3:Op.bytesLess x.name.toList r.name.toList <;> simp[b3] at h3⊢);rw[e];exact⟨rfl,_,(by rw[PM];exact a0.o),N.o.snoc e7.o e8.o e9.o,H⟩
     case rest=>
      obtain⟨rfl,f6,z,A,I⟩:=hcut;obtain⟨wt,rfl⟩:=ag wc;have f7:(rq r (g,i) x).1.length<=g.length+1:=by unfold rq;split <;> simp
      have a1:Hid (uM l r (k+1)=zR r (rq r (g,i) x) x):=d1.o;obtain⟨i1,hq⟩:=ag (rq r (g,i) x);rw[<-hq] at z A f7 a1⊢;obtain⟨J,qd⟩:=i1;dsimp only at z A f7;dsimp only;have⟨f8,f9⟩:=aD A z;clear A z hq Q R S T U V W X d1 N O b4 d4;obtain⟨Q,R,S,T,U,V,W⟩:=(G.o.kept I).all;have X:=(G.o.kept I).row.lt;have j0:=I.size;obtain⟨h,c0,c1,c2,c3,c4,c5,c6⟩:=HC.o wt I;clear R S T U V W c1 c2 c3 c4 c5 c6;cases g0:(x.name.toList == r.name.toList)
      ·have a2:zR r (J,qd) x= (J++ [x],qd):=by unfold zR;rw[g0];rfl
       have a3:=Kz a2;clear a2;go_upto_region 10 with fail
       go_quiet (fail)
       obtain⟨wv,b5⟩:=ag (wt.drewN nq);rw[<-b5];have KV:K_ f wv:=(by rw[b5];exact I.drewN _);have g1:Hid (wv.ownsRow f.heap.size 103 7 u5 J.length f6):=(by rw[b5];exact f9.o);clear Q X b5 c0 h;obtain⟨h,c0,c1,c2,c3,c4,c5,c6⟩:=HC.o wv KV;have j1:=KV.size;go_wp2_with (at_builtin;refine wpList_append_own _ rfl (.tmp 44) (.tmp 49) 51 rfl f.heap.size 103 b8 _ 7 80 underlying51 b9 c7 M c8 rfl (by decide) _ J.length _ rfl (ai g1.o (by repeat (first | (with_reducible exact K_.refl _) | apply K_.alloc | apply K_.drewN | apply K_.drew))) ⟨wv.heap.size,0,none⟩ 1 1 (x.cells xa ca) rfl rfl (fun m u p=>(by rw[PQ];exact X_ wv (x.cells xa ca).toArray 103 m u (by simpa using p))) (Q_.one x xa ca) (by unfold maxLen;omega) (by omega) (by simp;omega) ?_;intro v6 Z C D _;have H:K_ f Z:=aC (KV.trans (by repeat (first | (with_reducible exact K_.refl _) | apply K_.alloc | apply K_.drewN | apply K_.drew))) (by omega) (ai g1.o (by repeat (first | (with_reducible exact K_.refl _) | apply K_.alloc | apply K_.drewN | apply K_.drew))) D;have a0:=Kz C;clear C D)
       go_roundw
       case rel=>exact⟨k+1,by omega,by go_num,by rw[a1.o,a3.o],by rw[a1.o,a3.o];exact⟨_,(by rw[PM];exact a0.o),f8.o.snoc h6.o h7.o h8.o,H⟩⟩
       case measure=>simp[intOf];omega
      ·have a2:zR r (J,qd) x= (J,qd):=by unfold zR;rw[g0];rfl
       have a3:=Kz a2;clear a2;go_upto_region 10 with fail
       go_quiet (fail)
       go_wp2
       go_roundw
       case rel=>exact⟨k+1,by omega,by go_num,by rw[a1.o,a3.o],by rw[a1.o,a3.o];exact⟨f6,f9.o,f8.o,I.drewN _⟩⟩
       case measure=>simp[intOf];omega
   ·have i2:k=l.length:=by omega
    subst i2;have HE:=Kz (Mt (r:=r) g2.o);rw[<-f1.o] at HE;cases i
    ·go_wp2_with (at_builtin;refine wpList_append_own _ rfl (.tmp 53) (.tmp 55) 51 rfl f.heap.size 103 b8 _ 7 80 underlying51 b9 c7 M c8 rfl (by decide) _ g.length _ rfl (ai O.o (by repeat (first | (with_reducible exact K_.refl _) | apply K_.alloc | apply K_.drewN | apply K_.drew))) ⟨wr.heap.size,0,none⟩ 1 1 (r.cells j s) rfl rfl (fun m u p=>(by rw[PQ];exact X_ wr (r.cells j s).toArray 103 m u (by simpa using p))) (Q_.one r j s) (by unfold maxLen;omega) (by omega) (by simp;omega) ?_;intro v6 Z C D _;have H:K_ f Z:=aC (B.trans (by repeat (first | (with_reducible exact K_.refl _) | apply K_.alloc | apply K_.drewN | apply K_.drew))) (by omega) (ai O.o (by repeat (first | (with_reducible exact K_.refl _) | apply K_.alloc | apply K_.drewN | apply K_.drew))) D;have a0:=Kz C;clear C D)
     go_ret
     have e:dI l r=g++ [r]:=by rw[<-HE.o];rfl
     rw[e];exact⟨v6,rfl,⟨f,_,b2.o,H,(by rw[PM];exact a0.o),N.o.snoc e7.o e8.o e9.o⟩,b2.o.trans H⟩
    ·go_wp2
     go_ret
     have e:dI l r=g:=by rw[<-HE.o];rfl
     rw[e];exact⟨_,rfl,⟨f,xs,b2.o,B,O.o,N.o⟩,b2.o.trans B⟩
theorem Tryz.rQ :(prog.info? 53).map (·.size)=some 2:=by kernel_rfl
variable {w : Qy}
theorem cK.set{P:Nat->Prop}{a:List QA}{l:List Q_}{c p:Nat}(h:cK w P a l)(e:∀b,P b->b≠c)(u:QA):cK (w.setCell ⟨c,p,none⟩ u) P a l:=by
 refine⟨h.1,fun i f=>?_⟩;obtain⟨g,j,k,m,n,d⟩:=h.2 i f;refine⟨g,j,k,(fun q r=>?_),n,d⟩;obtain⟨b,o,rfl,s,t⟩:=m q r;exact⟨b,o,rfl,by rw[size_setCell];exact s,by rw[Zj (e b (d _ rfl))];exact t⟩
variable {t : TypeId}
theorem JW{w':Qy}{base size b m n:Nat}{e:TypeId}{v:QA}{d:List QA}(h:w.ownsRow base e size v n d)(k:Xj b (b+1) w w')(f:aL w b t m)(i:t≠e):w'.ownsRow base e size v n d:=by
 refine⟨h.1, ?_⟩;rcases h.2 with a|⟨g,j,l,rfl,p,c,rest⟩
 ·exact .inl a
 ·refine .inr ⟨g,j,l,rfl,p, ?_,rest⟩;have q:g≠b:=by
   rintro rfl;obtain⟨r,a,_⟩:=f;rw[c] at a;simp only[PN,Obj.cells.injEq] at a;exact i a.2.1.symm
  rw[k.block g (aV c) (by omega)];exact c
theorem bM{base:Nat}{v:QA}{n:Nat}{l:List Qw}(h:w.ownsRow base t 1 v n (l.map Value.string)):∃a cap,v= .slice a l.length cap/\Strs w a l:=by
 have c:n=l.length:=by have:=h.1;simp at this;omega
 subst c;rcases h.2 with⟨rfl,d⟩|⟨g,cap,f,rfl,j,e,k,_,_,_⟩
 ·exact⟨none,0,by rw[d],fun i b=>by omega⟩
 ·refine⟨_,cap,rfl,fun i b=>⟨g,0,rfl,aV e, ?_⟩⟩;have:=h.cells (g:=g) rfl i (.string (l.getD i ByteArray.empty)) (by simp[List.getD,b]);rw[PQ] at this;exact this
structure StX (W1 wr:Qy) (sb:Nat) (ra:Qx) (n rc:Nat) (d:Qx) (t:List Q_) (dc:Nat) (xs:List QA):Prop where
 kb:Xj sb (sb+1) W1 wr
 row:aL wr sb 53 2
 Kj:wr.cell? ⟨sb,0,none⟩=some (.slice ra n rc)
 runs:wr.cell? ⟨sb,1,none⟩=some (.slice d t.length dc)
 own:wr.ownsRow W1.heap.size 103 7 (.slice d t.length dc) t.length xs
 pack:cK wr (fun b=>sb<b) xs t
def ry(Kj:List Qw)(T:List Q_)(w w':Qy)(e:Ending):Prop:=
 ∃ra rc d dc xs,e= .returned (.agg #[.slice ra Kj.length rc,.slice d T.length dc])/\w'.ownsRow w.heap.size 9 1 (.slice ra Kj.length rc) Kj.length (Kj.map Value.string)/\w'.ownsRow w.heap.size 103 7 (.slice d T.length dc) T.length xs/\cK w' (fun b=>w.heap.size<=b) xs T/\K_ w w'
theorem AX :∀(l t:List Q_),dB t->dB (l.foldl dI t)
 | [],_,h=>h
 | x :: l,t,h=>AX l (dI t x) (qa h)
theorem xY(w:Qy)(Q S rc:Nat)(f:List Qw)(a:Qx)(cap:Nat)(R:List Q_)(g2:f.length<=10)(g3:R.length<=10000)(d5:∀r∈R,r.texts.length<=1000)(d6:∀k,((R.take k).foldl dI []).length<=10000)(hR:Strs w (some ⟨Q,S,none⟩) f)(hS:gD w a R):
  Calls prog 48 #[.slice (some ⟨Q,S,none⟩) f.length rc,.slice a R.length cap] w fun e w'=>ry f (R.foldl dI []) w w' e:=by
 obtain⟨is,hi,d7,d8,d9⟩:=aN Tryz.fJ;obtain⟨h,T⟩:=ag (w.alloc (.cells #[.slice none 0 0,.slice none 0 0] 53));have a0:K_ w h:=by rw[T];exact ak _ _
 have a1:aL h w.heap.size 53 2:=by rw[T];exact aL.made w #[.slice none 0 0,.slice none 0 0] 53
 have g4:w.heap.size+1<=h.heap.size:=a1.lt;have b0:=Kz a1;have U:Hid (K_ h (h.alloc (.cells #[] 9))):=ak _ _;have a2:Hid ((h.alloc (.cells #[] 9)).ownsRow h.heap.size 9 1 (.slice (some ⟨h.heap.size,0,none⟩) 0 0) 0 (([]:List Qw).map Value.string)):=Pz h #[] 0 (OU _) (OW _) rfl;have b1:Hid (∀j u,(f.map Value.string)[j]? =some u->(h.alloc (.cells #[] 9)).cell? ((⟨Q,S,none⟩:Addr).add j)=some u):=fun j u J=>by
  have hj:j<f.length:=by have:=(O_.1 J).1;simpa using this
  obtain⟨b,o,e,x,i⟩:=(hR.kept (a0.trans U.o)) j hj;simp only[PN] at e;rw[e,PQ,i];simp[hj] at J;simp[List.getD,hj,J]
 have b2:Hid (∀u∈f.map Value.string,u.oneCell'=true):=fun u J=>by obtain⟨g5,_,rfl⟩:=Pv.1 J;rfl
 have b3:h.heap.size<=(h.alloc (.cells #[] 9)).heap.size:=U.o.size;clear a1;go_enter func48,ntmps48
 go_upto_region 1 with fail
 rw[<-T];clear T;go_wp2_with (at_builtin;refine wpList_append_own _ rfl (.tmp 7) (.tmp 8) 25 rfl h.heap.size 9 is _ 1 16 underlying25 hi d7 d8 d9 rfl (by decide) (.slice (some ⟨h.heap.size,0,none⟩) 0 0) 0 [] rfl a2.o ⟨Q,S,none⟩ f.length rc (f.map Value.string) rfl (by simp) b1.o b2.o (by unfold maxLen;omega) (by omega) b3 ?_;intro v6 F V b4 _;have X:K_ h F:=aC U.o (OU _) a2.o b4;rw[PD,List.nil_append] at V;obtain⟨n,q,rfl⟩:=aG V;have b5:=Kz V;clear V b4)
 obtain⟨A,K⟩:=ag (F.alloc (.cells #[.slice n f.length q,.slice none 0 0] 53));obtain⟨s,C⟩:=ag F.heap.size;have Y:K_ F A:=by rw[K];exact ak _ _
 have a3:Hid (aL A s 53 2):=by rw[K,C];exact aL.made F #[.slice n f.length q,.slice none 0 0] 53
 have b6:A.rangeAt s 0 [.slice n f.length q,.slice none 0 0]:=by rw[K,C];exact X_ F #[.slice n f.length q,.slice none 0 0] 53
 have e0:=Kz b6;have b7:=Kz (b0.o.kept (X.trans Y));have e1:=Kz (ai b5.o Y);have K1:K_ w A:=(a0.trans X).trans Y;have e2:=X.size;have e3:s+1<=A.heap.size:=a3.o.lt;have g6:w.heap.size<s:=by omega
 rw[<-K,<-C];clear b6 b5 a2 b1 b0 K C b2 b3 U Y X e2 a0;go_loopw [6] (fun L wr=>∃(k:Nat) (d:Qx) (l:Nat) (xs:List QA),k<=R.length/\L= .int .i64 k/\StX A wr s n f.length q d ((R.take k).foldl dI []) l xs) (fun L _=>R.length-(intOf L).toNat)
 case atStart=>
  have i:=e0.o;exact⟨0,none,0,[],OW _,rfl,⟨Xj.refl _ _ _,a3.o,i 0 _ rfl,i 1 _ rfl,PU _ _ _ _,cK.nil _ _⟩⟩
 case round=>
  obtain⟨k,d,l,xs,hk,rfl,g⟩:=hrel;have a4:=d6 k;by_cases M:k<R.length
  ·have Kr:K_ w wr:=g.kb.kept K1 (by omega);obtain⟨b,o,D,N,rfl,x,i,a5,b8⟩:=hS.kept Kr k M;obtain⟨t,E⟩:=ag ((R.take k).foldl dI []);obtain⟨y,Z⟩:=ag (R.getD k Q_.zero);have e4:Hid ((R.take (k+1)).foldl dI []=dI t y):=by show _=_;rw[Pb M,List.foldl_append,E,Z];simp[List.getD,M]
   have b9:dB t:=by rw[E];exact AX _ _ List.Pairwise.nil
   have e5:y.texts.length<=1000:=by rw[Z];simp only[List.getD,M,OZ,Ql];exact d5 _ (Pf M)
   rw[<-E] at g a4;rw[<-Z] at i a5;have z:=Kz g;have zr:=g.kb.size;have e6:Hid (nM wr (fun b=>s<b) d t):=by
    obtain⟨_,a9,g7,ev,G⟩:=cK.runs g.own g.pack (K_.refl _);simp only[PO,true_and] at ev;rw[ev.1];exact G
   have e7:Hid (∀W,K_ wr W->Calls prog 98 #[.slice d t.length l,.agg #[.string y.name,.bool y.over,.bool y.fail,.string y.text,.int .i64 y.at',.int .i64 y.Zq,.slice D y.texts.length N]] W fun e w'=>∃v,e= .returned v/\LC W w' (fun b=>s<b) v (dI t y)/\K_ W w'):=fun W hW=>CW W d l t y D N (by omega) e5 b9 (fun b=>s<b) (fun b x=>by have:=hW.size;omega) (e6.o.kept hW) (a5.kept hW) b8
   have c0:wr.cell? ⟨b,o+k*7+0,none⟩=some (.string y.name):=i 0 _ rfl;have c1:wr.cell? ⟨b,o+k*7+1,none⟩=some (.bool y.over):=i 1 _ rfl;have c2:wr.cell? ⟨b,o+k*7+2,none⟩=some (.bool y.fail):=i 2 _ rfl;have c3:wr.cell? ⟨b,o+k*7+3,none⟩=some (.string y.text):=i 3 _ rfl;have c4:wr.cell? ⟨b,o+k*7+4,none⟩=some (.int .i64 y.at'):=i 4 _ rfl;have c5:wr.cell? ⟨b,o+k*7+5,none⟩=some (.int .i64 y.Zq):=i 5 _ rfl;have c6:wr.cell? ⟨b,o+k*7+6,none⟩=some (.slice D y.texts.length N):=i 6 _ rfl;rw[PR] at c0;have m1:=g.runs;have C:=g.row.lt;clear i Z E b9 g a5 b8;have g8:(k:Int)<(R.length:Int):=by omega
   have c7:Hid (∀w',K_ wr w'->(fun w'=>w'.cell? ⟨s,1,none⟩=some (.slice d t.length l)/\w'.cell? ⟨b,o+k*7,none⟩=some (.string y.name)/\w'.cell? ⟨b,o+k*7+1,none⟩=some (.bool y.over)/\w'.cell? ⟨b,o+k*7+2,none⟩=some (.bool y.fail)/\w'.cell? ⟨b,o+k*7+3,none⟩=some (.string y.text)/\w'.cell? ⟨b,o+k*7+4,none⟩=some (.int .i64 y.at')/\w'.cell? ⟨b,o+k*7+5,none⟩=some (.int .i64 y.Zq)/\w'.cell? ⟨b,o+k*7+6,none⟩=some (.slice D y.texts.length N)) w'):=fun w' B=>⟨(B.cell C).trans m1,(B.cell x).trans c0,(B.cell x).trans c1,(B.cell x).trans c2,(B.cell x).trans c3,(B.cell x).trans c4,(B.cell x).trans c5,(B.cell x).trans c6⟩
   go_wp2
   refine Qk.region (by kernel_rfl) (fun w'=>w'.cell? ⟨s,1,none⟩=some (.slice d t.length l)/\w'.cell? ⟨b,o+k*7,none⟩=some (.string y.name)/\w'.cell? ⟨b,o+k*7+1,none⟩=some (.bool y.over)/\w'.cell? ⟨b,o+k*7+2,none⟩=some (.bool y.fail)/\w'.cell? ⟨b,o+k*7+3,none⟩=some (.string y.text)/\w'.cell? ⟨b,o+k*7+4,none⟩=some (.int .i64 y.at')/\w'.cell? ⟨b,o+k*7+5,none⟩=some (.int .i64 y.Zq)/\w'.cell? ⟨b,o+k*7+6,none⟩=some (.slice D y.texts.length N)) 8 ⟨m1,c0,c1,c2,c3,c4,c5,c6⟩ (fun H=>?_);refine af 0 H ?_;refine ae 4 H ?_;refine ae 5 H ?_;refine ax 6 (fun a6 O=>?_);go_simp
   go_at_call 98
   refine (e7.o _ (by repeat (first | (with_reducible exact K_.refl _) | (with_reducible assumption) | apply K_.drew))).mono ?_;rintro e w2 ⟨v2,rfl,e8,e9⟩;have I:K_ wr w2:=K_.trans (by repeat (first | (with_reducible exact K_.refl _) | (with_reducible assumption) | apply K_.drew)) e9;have z2:=I.size;obtain⟨wy,f0,c8,c9,a7,d0⟩:=e8;have zy:=c8.size;have d1:A.heap.size<=wy.heap.size:=Nat.le_trans zr (Nat.le_trans (Nat.le_of_eq (by rfl)) zy);have d2:=df (base':=A.heap.size) a7 d1;obtain⟨f1,f2,rfl⟩:=aG a7;have f3:=Kz d2;have f4:=Kz (d0.kept c9);have a8:=z.o.row.kept I;obtain⟨⟨_,g9⟩,h0⟩:=a8.row.at (i:=1) (by omega);have d3:=Kz a8;clear d2 a7 d0 a8 c8 c9 zy d1;dsimp only;refine O.out _ _ (fun _=>c7.o w2 I) ?_;clear O a6 H;have H:=c7.o w2 I;try simp only[Act.put,upA,upB,upC]
   refine ae 7 H ?_;refine ay 8 (fun a6 O=>?_);go_simp
   refine O.out _ _ (fun G=>Qi rfl G) ?_;clear O a6;try simp only[Act.put,upA,upB,upC]
   refine az ?_;go_wp2
   go_roundw
   case rel=>exact⟨k+1,f1,f2,f0,by omega,by go_num,by rw[e4.o];exact⟨(z.o.kb.trans (Xj.aj I)).setCell (OU _) (Px _) _,d3.o.set _,by rw[Xk (by omega),I.cell z.o.row.lt];exact z.o.Kj,bH d3.o.row (by omega) _,bV (p:=⟨s,1,none⟩) f3.o e3 _,f4.o.set (fun b G=>by omega) _⟩⟩
   case measure=>simp[intOf];omega
  ·have f5:k=R.length:=by omega
   subst f5;rw[PE] at g a4;obtain⟨t,E⟩:=ag (R.foldl dI []);rw[<-E] at g a4;have m0:=g.Kj;have m1:=g.runs;have P:=b7.o.block (g.kb.block _ b7.o.lt (by omega));obtain⟨⟨_,t0⟩,h1⟩:=P.row.at (i:=0) (by omega);obtain⟨⟨_,t1⟩,h3⟩:=P.row.at (i:=1) (by omega);have⟨f6,z⟩:=aD P g;have C:=g.row.lt;have h4:=P.lt;clear P g;go_wp2
   have f7:=OY wr w.heap.size 0 [.slice n f.length q,.slice d t.length l] (f6.o.row.there (o:=0) (m:=2) (OU _));have hO:=bV (bV z.o.own (p:=⟨w.heap.size,0,none⟩) (by show w.heap.size<_;omega) (.slice n f.length q)) (p:=⟨w.heap.size,1,none⟩) (by show w.heap.size<_;omega) (.slice d t.length l);have f8:=JW e1.o z.o.kb a3.o (by decide);have f9:=bV (bV f8 (p:=⟨w.heap.size,0,none⟩) (by show w.heap.size<_;omega) (.slice n f.length q)) (p:=⟨w.heap.size,1,none⟩) (by show w.heap.size<_;omega) (.slice d t.length l);have d4:=(z.o.pack.set (c:=w.heap.size) (p:=0) (fun b G=>by omega) (.slice n f.length q)).set (c:=w.heap.size) (p:=1) (fun b G=>by omega) (.slice d t.length l);subst E;refine Zx [.slice n f.length q,.slice d (R.foldl dI []).length l] _ results48 rfl f7 underlying53 rfl Tryz.rQ rfl ⟨n,q,d,l,xs,rfl,df f9 (by omega),df hO (by omega),⟨d4.1,fun L hi=>by obtain⟨D,xc,e,g0,h2,g1⟩:=d4.2 L hi;exact⟨D,xc,e,g0,h2,fun ad e=>by have:=g1 ad e;omega⟩⟩, ?_⟩;exact ((z.o.kb.kept K1 (by omega)).setCell (OU _) _).setCell (OU _) _
def Ci(v:Qw):List QA:=[.string v,.bool false,.bool false,.string ⟨#[]⟩,.int .i64 0,.int .i64 0,.slice none 0 0]
theorem FP(v:Qw):∀u∈Ci v,u.oneCell'=true:=Q_.one (Q_.fresh v) none 0
theorem Al(wz w:Qy)(c:Nat)(a5:wz.heap.size<=c)(a:Qx)(cap:Nat)(Kq:List Qz)(rd:Qx)(rc:Nat)(names:List Qw)(l:List Q_)(U:Qx)(V:Nat)(W:List QA)(I:Kq.length<=1048576)(c0:names.length<=100)(c1:l.length<=1000)
  (f:KnX wz w c a Kq.length cap l U V W) (J:bJ wz a Kq) (hR:Strs wz rd names):
  Calls prog 47 #[.pointer (some ⟨c,0,none⟩),.slice rd names.length rc] w fun e w'=>e= .returned (.tuple #[])/\∃d dc n,KnX wz w' c a Kq.length cap (fC (Kk Kq) l names) d dc n:=by
 have X:=Kz f;clear f;go_enter func47,ntmps47
 go_wp2
 go_loopw [4] (fun i wr=>∃(k:Nat) (d:Qx) (dc:Nat) (n:List QA),k<=names.length/\i= .int .i64 k/\KnX wz wr c a Kq.length cap (fC (Kk Kq) l (names.take k)) d dc n) (fun i _=>names.length-(intOf i).toNat)
 case atStart=>exact⟨0,U,V,W,OW _,rfl,X.o⟩
 case round=>
  obtain⟨k,d,dc,n,hk,rfl,h⟩:=hrel;by_cases Y:k<names.length
  ·obtain⟨j,o,rfl,C,L⟩:=hR k Y;have t:K_ wz wr:=h.kw;obtain⟨R,M⟩:=ag (fC (Kk Kq) l (names.take k));have D:=FK (Kk Kq) l Y;rw[<-M] at h D;have c2:R.length<=1100:=by rw[M];have:=qx (Kk Kq) (names.take k) l;rw[Pt] at this;omega
   obtain⟨v,Z⟩:=ag (names.getD k ByteArray.empty);rw[<-Z] at L D;have N:=Kz D;have E:=(t.cell C).trans L;have O:=h.known.web;have P:=h.known.runs;have F:=h.known.row.lt;have⟨a0,p⟩:=aD h.runs h;clear M Z D h X;have Q:j<wr.heap.size:=OV C t.size;have i0:(k:Int)<(names.length:Int):=by omega
   by_cases x:(Kk Kq v).isSome=true
   ·have z:Hid (∀w',K_ wr w'->(fun w'=>w'.cell? ⟨c,0,none⟩=some (.slice a Kq.length cap)/\w'.cell? ⟨c,1,none⟩=some (.slice d R.length dc)/\w'.cell? ⟨j,o+k,none⟩=some (.string v)) w'):=fun w' q=>⟨(q.cell F).trans O,(q.cell F).trans P,(q.cell Q).trans E⟩
    by_cases G:(Qq R v).isNone=true
    ·go_wp2
     go_region_held (fun w'=>w'.cell? ⟨c,0,none⟩=some (.slice a Kq.length cap)/\w'.cell? ⟨c,1,none⟩=some (.slice d R.length dc)/\w'.cell? ⟨j,o+k,none⟩=some (.string v)) (exact aP z _ (by repeat (first | (with_reducible exact K_.refl _) | (with_reducible assumption) | apply K_.drew))) ((first | (go_at_call 55;refine (Dg _ a cap Kq v I (J.kept (t.trans (by repeat (first | (with_reducible exact K_.refl _) | (with_reducible assumption) | apply K_.drew)))) x).mono ?_;rintro e r ⟨⟨r1,rfl⟩,A⟩;have g:K_ wr r:=K_.trans (by repeat (first | (with_reducible exact K_.refl _) | (with_reducible assumption) | apply K_.drew)) A) | (go_at_call 97;refine (Km _ c a Kq.length cap d dc R v (by omega) (p.o.known.kept (g.trans (by repeat (first | (with_reducible exact K_.refl _) | (with_reducible assumption) | apply K_.drew)))) (a0.o.kept (g.trans (by repeat (first | (with_reducible exact K_.refl _) | (with_reducible assumption) | apply K_.drew)))) G).mono ?_;rintro e m ⟨⟨r2,rfl,c3⟩,rfl⟩)))
     all_goals
      have B:=p.o.kept g;have S:=Kz B;have n1:=B.known.runs;have n0:=(g.cell Q).trans E;have z2:=B.kw.size;have a6:j<m.heap.size:=OV C z2;have a7:c<m.heap.size:=B.known.row.lt;have a8:Hid (∀w',K_ m w'->(fun w'=>w'.cell? ⟨c,1,none⟩=some (.slice d R.length dc)/\w'.cell? ⟨j,o+k,none⟩=some (.string v)) w'):=fun w' bl=>⟨(bl.cell a7).trans n1,(bl.cell a6).trans n0⟩
      obtain⟨a9,b0,b1,b2,b3⟩:=aN Tryz.EE;clear B;go_wp2
      refine Qk.region (by kernel_rfl) (fun w'=>w'.cell? ⟨c,1,none⟩=some (.slice d R.length dc)/\w'.cell? ⟨j,o+k,none⟩=some (.string v)) 14 ⟨n1,n0⟩ (fun b=>?_);refine af 0 b ?_;refine af 4 b ?_;refine ae 8 b ?_;refine ae 9 b ?_;refine ay 10 (fun K f=>?_);go_simp
      have H:K_ m (m.alloc (.cells (Ci v).toArray 103)).drew:=(ak _ _).drew;refine f.out _ _ (fun _=>a8.o _ H) ?_;clear f K b;try simp only[Act.put,upA,upB,upC]
      refine ay 11 (fun K f=>?_);refine step_append_lies _ rfl (.tmp 34) (.tmp 40) 51 rfl wz.heap.size 103 a9 _ 7 80 underlying51 b0 b1 b2 b3 rfl (by decide) (.slice d R.length dc) R.length n (by simp[Act.eval]) (ai S.o.own H) ⟨m.heap.size,0,none⟩ 1 1 (Ci v) (by simp[Act.eval]) rfl (fun b4 u hu=>by rw[PQ];exact X_ m (Ci v).toArray 103 b4 u (by simpa using hu)) (FP v) (by omega) (by unfold maxLen;omega) (by omega) (by simp;omega) _ rfl ?_;intro g6 b5 w8 a1 T b6 c4;obtain⟨b7,a2⟩:=S.o.grown H T;have a3:=a2.row;obtain⟨⟨_,c5⟩,c6⟩:=a3.row.at (i:=1) (by omega);have a4:=(show _/\_ from ⟨a2.runs,(b7.cell C).trans L⟩);have b8:=Kz (KnX.next (y:=Q_.fresh v) (xa:=none) (xc:=0) S.o a5 H T a1 (fun i hi=>by cases hi) (fun _=>rfl));clear a1 T b6 a3;refine f.out _ _ (fun _=>a4) ?_;clear f K;try simp only[Act.put,upA,upB,upC]
      have b:=a4;refine ae 12 b ?_;refine ae 13 b ?_;refine ay 14 (fun K f=>?_);go_simp
      refine f.out _ _ (fun s=>Qi rfl s) ?_;clear f K;try simp only[Act.put,upA,upB,upC]
      refine az ?_;go_wp2
      go_roundw
      case rel=>exact⟨k+1,_,b5,_,by omega,by go_num,by rw[N.o,Qg ⟨x,G⟩];exact b8.o⟩
      case measure=>simp[intOf];omega
    ·go_wp2
     go_region_held (fun w'=>w'.cell? ⟨c,0,none⟩=some (.slice a Kq.length cap)/\w'.cell? ⟨c,1,none⟩=some (.slice d R.length dc)/\w'.cell? ⟨j,o+k,none⟩=some (.string v)) (exact aP z _ (by repeat (first | (with_reducible exact K_.refl _) | (with_reducible assumption) | apply K_.drew))) ((first | (go_at_call 55;refine (Dg _ a cap Kq v I (J.kept (t.trans (by repeat (first | (with_reducible exact K_.refl _) | (with_reducible assumption) | apply K_.drew)))) x).mono ?_;rintro e r ⟨⟨r1,rfl⟩,A⟩;have g:K_ wr r:=K_.trans (by repeat (first | (with_reducible exact K_.refl _) | (with_reducible assumption) | apply K_.drew)) A) | (go_at_call 97;refine (KM _ c a Kq.length cap d dc R v (by omega) (p.o.known.kept (g.trans (by repeat (first | (with_reducible exact K_.refl _) | (with_reducible assumption) | apply K_.drew)))) (a0.o.kept (g.trans (by repeat (first | (with_reducible exact K_.refl _) | (with_reducible assumption) | apply K_.drew)))) G).mono ?_;rintro e m ⟨⟨r2,rfl⟩,rfl⟩)))
     all_goals
      go_wp2
      go_roundw
      case rel=>exact⟨k+1,d,dc,n,by omega,by go_num,by rw[N.o,Qh (fun s=>G s.2)];exact p.o.kept g⟩
      case measure=>simp[intOf];omega
   ·have z:Hid (∀w',K_ wr w'->(fun w'=>w'.cell? ⟨c,0,none⟩=some (.slice a Kq.length cap)/\w'.cell? ⟨c,1,none⟩=some (.slice d R.length dc)/\w'.cell? ⟨j,o+k,none⟩=some (.string v)) w'):=fun w' q=>⟨(q.cell F).trans O,(q.cell F).trans P,(q.cell Q).trans E⟩
    go_wp2
    refine Qk.region (by kernel_rfl) (fun w'=>w'.cell? ⟨c,0,none⟩=some (.slice a Kq.length cap)/\w'.cell? ⟨c,1,none⟩=some (.slice d R.length dc)/\w'.cell? ⟨j,o+k,none⟩=some (.string v)) 18 ⟨O,P,E⟩ (fun b=>?_);refine af 0 b ?_;refine af 4 b ?_;refine ax 8 (fun K f=>?_);go_simp
    go_at_call 55
    refine (Lt _ a cap Kq v I (J.kept (t.trans (by repeat (first | (with_reducible exact K_.refl _) | (with_reducible assumption) | apply K_.drew)))) x).mono ?_;rintro e r ⟨rfl,A⟩;have g:K_ wr r:=K_.trans (by repeat (first | (with_reducible exact K_.refl _) | (with_reducible assumption) | apply K_.drew)) A;dsimp only;refine f.out _ _ (fun _=>z.o r g) ?_;clear f K b;have b:=z.o r g;try simp only[Act.put,upA,upB,upC]
    refine ae 9 b ?_;refine ae 10 b ?_;refine au 11 b ?_;refine au 12 b ?_;refine au 13 b ?_;refine au 14 b ?_;refine au 15 b ?_;refine au 16 b ?_;refine au 17 b ?_;refine ay 18 (fun K f=>?_);go_simp
    refine f.out _ _ (fun s=>Qi rfl s) ?_;clear f K;try simp only[Act.put,upA,upB,upC]
    refine az ?_;go_wp2
    go_roundw
    case rel=>exact⟨k+1,d,dc,n,by omega,by go_num,by rw[N.o,Qh (fun s=>x s.1)];exact p.o.kept g⟩
    case measure=>simp[intOf];omega
  ·have b9:k=names.length:=by omega
   subst b9;rw[PE] at h;have p:=Kz h;clear h;go_wp2
   go_end0
   exact⟨rfl,_,_,_,p.o⟩
theorem yc{a:Qy}{x:QA}(K:K_ (w.alloc (.cells #[x] t)) a):a.cell? ⟨w.heap.size,0,none⟩=some x:=
 (K.cell (by simp)).trans (X_ w #[x] t 0 _ rfl)
theorem IQ{X w':Qy}{c:Array QA}(k:K_ (X.alloc (.cells c t)) w'):aL w' X.heap.size t c.size:=(aL.made X c t).kept k
theorem xk{α:Type}(p q:α->Bool)(h:∀x,¬(p x=true/\q x=true)):∀l:List α,(l.filter p).length+ (l.filter q).length<=l.length
 | []=>OU _
 | x :: l=>by
  have e:=xk p q h l;have d:=h x;simp only[List.filter_cons];by_cases b:p x=true
  ·have a:¬q x=true:=fun a=>d ⟨b,a⟩
   rw[Qg b,Qh a,PP,PP];omega
  ·rw[Qh b];by_cases a:q x=true
   ·rw[Qg a,PP,PP];omega
   ·rw[Qh a,PP];omega
theorem yT(l:List Q_)(r:Q_):(dI l r).length<=l.length+1:=by
 unfold dI;rw[PM,PP];have:=xk (fun x:Q_=>Op.bytesLess x.name.toList r.name.toList) (fun x:Q_=>Op.bytesLess r.name.toList x.name.toList) (fun x h=>di h.1 h.2) l;omega
theorem Ai :∀(l t:List Q_),(l.foldl dI t).length<=t.length+l.length
 | [],_=>OU _
 | x :: l,t=>by
  have a:=Ai l (dI t x);have b:=yT t x;show (l.foldl dI (dI t x)).length<=_;rw[PP];omega
theorem qf(R:List Q_)(k:Nat):((R.take k).foldl dI []).length<=R.length:=by
 have a:=Ai (R.take k) [];have b:(R.take k).length<=R.length:=by rw[Pt];omega
 simp only[List.length_nil] at a;omega
theorem uJ(W:aZ):∀(bs:List Qw) (l:List Q_) (x:Q_),x∈fC W l bs->x∈l\/∃n,x=Q_.fresh n
 | [],_,_,h=>.inl h
 | a :: bs,l,x,h=>by
  rcases uJ W bs _ x h with b|b
  ·by_cases d:(W a).isSome=true/\(Qq l a).isNone=true
   ·rw[Qg d] at b;rcases Pe.1 b with c|c
    ·exact .inl c
    ·rw[Pd] at c;exact .inr ⟨a,c⟩
   ·rw[Qh d] at b;exact .inl b
  ·exact .inr b
theorem rZ{P Q:Nat->Prop}{a:List QA}{l:List Q_}(h:cK w P a l)(c:∀b,P b->Q b):cK w Q a l:=
 ⟨h.1,fun i d=>by obtain⟨f,g,e,j,k,m⟩:=h.2 i d;exact⟨f,g,e,j,k,fun n e=>c _ (m n e)⟩⟩
theorem ER(w:Qy)(a:Qx)(cap:Nat)(Kq:List Qz)(j k rc:Nat)(b:List Qw)(hl:Kq.length<=1048576)(hf:∀s∈Kq,s.Fits)(hw:cu Kq 0)(A:eO b)(a5:∀s∈b,s.size<=maxLen)(K:bJ w a Kq)(B:Strs w (some ⟨j,k,none⟩) b):
  Calls prog 21 #[.agg #[.slice a Kq.length cap],.slice (some ⟨j,k,none⟩) b.length rc] w fun e w'=>ry b (bY Kq b) w w' e:=by
 have a6:Kq.length<=maxLen:=by unfold maxLen;omega
 have a7:b.length<=maxLen:=by have:=A.1;have:=A.2.1;unfold maxLen;omega
 go_enter func21,ntmps21
 go_wp2_with fail
 refine (nC _ a cap Kq a6 hf (K.kept (by repeat (first | apply K_.alloc | exact K_.refl _)))).mono ?_;rintro e v ⟨⟨a8,rfl,L⟩,l⟩;have C:K_ w v:=K_.trans (by repeat (first | apply K_.alloc | exact K_.refl _)) l;have z1:=l.size;simp only[PL] at z1;have M:=yc (w:=w) (K_.trans (ak _ _) l);have D:=IQ l;simp only[PL] at D;have x:Hid (aL v (w.heap.size+1) 53 2):=D;obtain⟨⟨_,x0⟩,g0⟩:=x.o.row.at (i:=0) (by omega);obtain⟨⟨_,x1⟩,g1⟩:=x.o.row.at (i:=1) (by omega);have a9:a8=0:=L.unique hw;clear D L l;have b0:w.heap.size<v.heap.size:=by omega
 have c2:w.heap.size+1<v.heap.size:=by omega
 subst a9;go_wp2_with fail
 refine (qR _ (some ⟨j,k,none⟩) rc b a7 a5 (B.kept C)).mono ?_;rintro e c ⟨N,n⟩;have q2:=(n.cell (o:=0) b0).trans M;have y:=Kz (x.o.kept n);have E:=C.trans n;have z2:=n.size;obtain⟨⟨_,y0⟩,e0⟩:=y.o.row.at (i:=0) (by omega);obtain⟨⟨_,y1⟩,e1⟩:=y.o.row.at (i:=1) (by omega);clear M x0 x1 g0 g1 x C n;rcases N.cases with⟨rfl,O⟩|⟨rfl,b1⟩
 ·have F:=Kz O;clear O N;have c3:w.heap.size<c.heap.size:=by omega
  have b2:Hid (KnX c (c.alloc (.cells #[.slice a Kq.length cap,.slice none 0 0] 94)) c.heap.size a Kq.length cap [] none 0 []):=⟨ak _ _,⟨aL.made c _ _,X_ c #[.slice a Kq.length cap,.slice none 0 0] 94 0 _ rfl,X_ c #[.slice a Kq.length cap,.slice none 0 0] 94 1 _ rfl⟩,PU _ _ _ _,cK.nil _ _⟩;go_wp2_with fail
  refine (Al c _ c.heap.size (OU _) a cap Kq (some ⟨j,k,none⟩) rc b [] none 0 [] hl (by have:=F.o.2.1;omega) (by simp) b2.o (K.kept E) (B.kept E)).mono ?_;rintro e w3 ⟨rfl,b3,dc,xs,q⟩;have G:K_ c w3:=q.kw;have P:=E.trans G;have z3:=G.size;have Q:=q.known.runs;have c4:=q.known.row.lt;have S:=Kz q.runs;have U:=Kz (y.o.kept G);obtain⟨R,t⟩:=ag (fC (Kk Kq) [] b);have c5:R.length<=10:=by have:=qx (Kk Kq) b [];have:=F.o.2.1;rw[t];simp at *;omega
  have V:∀r∈R,r.texts.length<=1000:=fun r W=>by
   rw[t] at W;rcases uJ _ _ _ _ W with z|⟨c6,rfl⟩
   ·cases z
   ·exact OW _
  have X:Hid (R.foldl dI []=bY Kq b):=by show _=_;rw[t];rfl
  rw[<-t] at S Q;have b4:=Kz V;clear q y0 y1 e0 e1 y q2 t V;go_wp2_with fail
  refine (xY _ j k rc b b3 dc R (by have:=F.o.2.1;omega) (by omega) b4.o (fun b5=>by have:=qf R b5;omega) (B.kept P) S.o).mono ?_;rintro e w4 Y;rw[X.o] at Y;obtain⟨d,f,g,h,b6,rfl,Z,a0,a1,H⟩:=Y;have K4:=P.trans H;have I:=Kz (U.o.kept H);have z4:=H.size;obtain⟨⟨_,t0⟩,f0⟩:=I.o.row.at (i:=0) (by omega);obtain⟨⟨_,t1⟩,f1⟩:=I.o.row.at (i:=1) (by omega);have⟨b7,a2,a3⟩:=bA Z a0 a1;obtain⟨T,J⟩:=ag (bY Kq b);rw[<-J] at a2 a3⊢;have b8:=Kz J;clear Z a0 a1 U Q J X;go_wp2
  have b9:=OY w4 (w.heap.size+1) 0 [.slice d b.length f,.slice g T.length h] (I.o.row.there (o:=0) (m:=2) (OU _));have hO:=bV (bV a2.o (p:=⟨w.heap.size+1,0,none⟩) (by simp;omega) (.slice d b.length f)) (p:=⟨w.heap.size+1,1,none⟩) (by simp;omega) (.slice g T.length h);have c0:=bV (bV b7.o (p:=⟨w.heap.size+1,0,none⟩) (by simp;omega) (.slice d b.length f)) (p:=⟨w.heap.size+1,1,none⟩) (by simp;omega) (.slice g T.length h);have c1:=(a3.o.set (c:=w.heap.size+1) (p:=0) (fun a4 z=>by omega) (.slice d b.length f)).set (c:=w.heap.size+1) (p:=1) (fun a4 z=>by omega) (.slice g T.length h);obtain rfl:=b8.o;exact Zx [.slice d b.length f,.slice g (bY Kq b).length h] _ results21 rfl b9 underlying53 rfl Tryz.rQ rfl ⟨d,f,g,h,b6,rfl,df c0 (by omega),df hO (by omega),rZ c1 (fun a4 z=>by omega),(K4.setCell (by simp) _).setCell (by simp) _⟩
 ·exact Qi A b1
