import Derived.Test.YtbmhchdegdjfkaaGreatDoorKVAppr
import Derived.Laws.AppendOwnNone
set_option maxRecDepth 100000
set_option maxHeartbeats 25600000
namespace Go.Proofs.YtbmhchdegdjfkaaGreatDoor
open Go.RowKit Go.Proofs.Tryz
theorem zL(w:KH)(a:KG)(g3:Nat)(l:List Q_)(r:Q_)(xa:KG)(xc:Nat)(hl:l.length<=100000)(i5:r.texts.length<=1000)(hr:cZ l)(P:Nat->Prop)(d6:∀b,w.heap.size<=b->P b)(hS:lW w P a l)(hT:Strs w xa r.texts)(hX:xa=none->xc=0):
  Calls prog 89 #[.slice a l.length g3,.agg #[.string r.name,.bool r.over,.bool r.fail,.string r.text,.int .i64 r.at',.int .i64 r.Zq,.slice xa r.texts.length xc]] w
   fun e w'=>∃v,e= .returned v/\ER w w' P v (dz l r)/\K_ w w':=by
 have⟨d7,g4,d8⟩:=eB hX hr d6;clear hX hr d6;obtain⟨d,M⟩:=ah (w.alloc (.cells #[.string r.name,.bool r.over,.bool r.fail,.string r.text,.int .i64 r.at',.int .i64 r.Zq,.slice xa r.texts.length xc] 40));have kB:K_ w d:=by rw[M];exact ag _ _
 have g5:w.heap.size+1<=d.heap.size:=by rw[M];simp
 have d9:eZ d w.heap.size r xa xc:=by
  rw[M];exact⟨au.made w #[.string r.name,.bool r.over,.bool r.fail,.string r.text,.int .i64 r.at',.int .i64 r.Zq,.slice xa r.texts.length xc] 40,X_ w _ _⟩
 have⟨a5,G⟩:=aD kB d9;clear kB d9;go_enter func89,ntmps89
 go_upto_region 1 with fail
 rw[<-M];clear M;have a6:Hid (K_ d (d.alloc (.cells #[] 9))):=ag _ _;have a7:Hid ((d.alloc (.cells #[] 9)).ownsRow d.heap.size 9 1 (.slice (some ⟨d.heap.size,0,none⟩) 0 0) 0 (([]:List KC).map Value.string)):=Jz d #[] 0 (IZ _) (Ja _) rfl;obtain⟨ic,b7,e0,e1,e2⟩:=aO Tryz.dh;go_cut [3] from 8 to 57 (fun s3 F=>∃j s,s3= .pointer (some ⟨w.heap.size,0,none⟩)/\K_ w F/\eZ F w.heap.size r j s/\Strs F j r.texts/\(j=none->s=0)/\(∀y:Addr,j=some y->P y.block))
 case first=>
  obtain⟨q0,q1,q2,q3,q4,q5,q6⟩:=G.o.all;have qz:=G.o.row.lt;obtain⟨_,g6⟩:=G.o.row.row.at (i:=6) (by omega);rcases (show xa=none\/∃y,xa=some y from by cases xa with|none=>exact .inl rfl|some x=>exact .inr ⟨x,rfl⟩) with rfl|⟨y,rfl⟩
  ·have h0:r.texts=[]:=by
    cases g7:r.texts with
    | nil=>rfl
    | cons t ts=>exfalso;obtain⟨b,o,e,_⟩:=hT 0 (by rw[g7];simp);cases e
   have e3:=d7.o rfl;have e4:d.cell? ⟨w.heap.size,6,none⟩=some (.slice none 0 0):=by rw[q6,h0,e3];rfl
   have H0:=Kz h0;clear q6 h0 e3;have q6:=e4;clear e4;go_wp2_with (at_builtin;refine wpList_append_own_none _ rfl (.tmp 8) (.tmp 10) 26 rfl d.heap.size 9 ic 1 underlying26 b7 (.slice (some ⟨d.heap.size,0,none⟩) 0 0) 0 [] rfl a7.o rfl ?_)
   go_meet
   exact⟨_,_,rfl,K_.alloc (Below.setCell a5.o (p:=⟨w.heap.size,6,none⟩) (IZ _) _) _,(G.o.put (xa':=some ⟨d.heap.size,0,none⟩) (xc':=0) (by omega) (by simp[Q_.cells,H0.o])).kept (ag _ _),(fun a8 hi=>by rw[H0.o] at hi;cases hi),(fun e=>by cases e),fun y e=>by cases e;exact d8.o _ (by show w.heap.size<=d.heap.size;omega)⟩
  ·have g8:Hid (∀m u,(r.texts.map Value.string)[m]? =some u->(d.alloc (.cells #[] 9)).cell? (y.add m)=some u):=fun m u p=>by
    have hj:m<r.texts.length:=by have:=(Je.1 p).1;simpa using this
    obtain⟨b,o,e,h,q⟩:=(hT.kept (a5.o.trans a6.o)) m hj;simp only[JI] at e;subst e;rw[JL,q];simp[hj] at p;simp[List.getD,hj,p]
   have g9:Hid (∀u∈r.texts.map Value.string,u.oneCell'=true):=fun u p=>by obtain⟨x,_,rfl⟩:=Ju.1 p;rfl
   have h1:d.heap.size<=(d.alloc (.cells #[] 9)).heap.size:=a6.o.size;go_wp2_with (at_builtin;refine wpList_append_own _ rfl (.tmp 8) (.tmp 10) 26 rfl d.heap.size 9 ic _ 1 16 underlying26 b7 e0 e1 e2 rfl (by decide) (.slice (some ⟨d.heap.size,0,none⟩) 0 0) 0 [] rfl a7.o y r.texts.length xc (r.texts.map Value.string) rfl (by simp) g8.o g9.o (by unfold maxLen;omega) (by omega) h1 ?_;intro v1 w8 a9 e5 _;rw[JA,List.nil_append] at a9;have e6:=aF a6.o (IZ _) a7.o e5;have h2:=Kz a9;obtain⟨h4,h5,rfl⟩:=ax a9;have b0:=Kz (G.o.kept e6);have i6:=b0.o.all.2.2.2.2.2.2;have i7:=b0.o.row.lt;obtain⟨_,i8⟩:=b0.o.row.row.at (i:=6) (by omega);clear a9 e5)
   go_meet
   obtain⟨j,s,ev,b1,N,b2⟩:=Dg (c:=w.heap.size) (p:=6) (u:= .slice h4 r.texts.length h5) h2.o (by omega);simp only[JJ] at ev;obtain⟨rfl,_,rfl⟩:=ev;exact⟨_,_,rfl,Below.setCell (a5.o.trans e6) (p:=⟨w.heap.size,6,none⟩) (IZ _) _,b0.o.put (by omega) rfl,b1,N,fun y e=>d8.o _ (Jb (by omega) (b2 y e))⟩
 case rest=>
  obtain⟨j,s,rfl,k2,b8,b1,e7,b2⟩:=hcut;obtain⟨w2,rfl⟩:=ah wc;obtain⟨b9,c7,c8,N,c9⟩:=aO Tryz.nQ;have H:=Kz b8;have h6:=Kz (hS.kept k2);have⟨b3,e8,e9,f0⟩:=jh k2 b1 e7 b2;have i9:=b8.row.lt;clear b1 e7 b2 b8 k2 hS hT d7 a5 G a6 a7 b7 e0 e1 e2 g5;go_wp2
  go_loopw [5,6,7] (fun out dn a8 wr=>∃k:Nat,k<=l.length/\a8= .int .i64 k/\dn= .bool (qK l r k).2/\GY w2 wr P out (qK l r k)) (fun _ _ a8 _=>l.length-(intOf a8).toNat)
  case atStart=>
   exact⟨0,Ja _,rfl,rfl,[],Jz w2 #[] 0 (IZ _) (Ja _) rfl,aZ.nil _ _,ag _ _⟩
  case round=>
   obtain⟨k,hk,rfl,d0,xs,A,B,C⟩:=hrel;have f1:=zn (l:=l) (r:=r) hk;obtain⟨h7,hp⟩:=ah (qK l r k);rw[<-hp] at d0 A B f1;obtain⟨f,i⟩:=h7;dsimp only at d0 A B f1;subst d0;have⟨O,Q,f2⟩:=eB B A hp;clear B A hp;obtain⟨R,S,T,U,V,W,X⟩:=(H.o.kept C).all;have Y:=(H.o.kept C).row.lt;have hz:=C.size;by_cases f3:k<l.length
   ·obtain⟨b,o,xa,ca,rfl,h,q,d1,f4,f5⟩:=h6.o k f3;have d2:=Kz (wB (r:=r) f3);obtain⟨x,hx⟩:=ah (l.getD k Q_.zero);rw[<-hx,<-f2.o] at d2;rw[<-hx] at q d1;have HC:Hid (∀w',K_ w2 w'->b<w'.heap.size/\w'.cell? ⟨b,o+k*7,none⟩=some (.string x.name)/\w'.cell? ⟨b,o+k*7+1,none⟩=some (.bool x.over)/\w'.cell? ⟨b,o+k*7+2,none⟩=some (.bool x.fail)/\w'.cell? ⟨b,o+k*7+3,none⟩=some (.string x.text)/\w'.cell? ⟨b,o+k*7+4,none⟩=some (.int .i64 x.at')/\w'.cell? ⟨b,o+k*7+5,none⟩=some (.int .i64 x.Zq)/\w'.cell? ⟨b,o+k*7+6,none⟩=some (.slice xa x.texts.length ca)):=fun w' K=>⟨I_ h K.size,(K.cell h).trans (q 0 _ rfl),(K.cell h).trans (q 1 _ rfl),(K.cell h).trans (q 2 _ rfl),(K.cell h).trans (q 3 _ rfl),(K.cell h).trans (q 4 _ rfl),(K.cell h).trans (q 5 _ rfl),(K.cell h).trans (q 6 _ rfl)⟩
    have⟨h8,h9,i0⟩:=eB d1 f4 f5;clear q d1 f4 f5 hx;obtain⟨h,c0,c1,c2,c3,c4,c5,c6⟩:=HC.o wr C;have j0:(k:Int)<(l.length:Int):=by omega
    go_upto_region 7 with fail
    go_cut [31] from 14 to 50 (fun c F=>c= .bool (!i && !Op.bytesLess x.name.toList r.name.toList)/\∃n,F=wr.drewN n)
    case first=>
     cases i
     ·cases b4:Op.bytesLess x.name.toList r.name.toList
      ·go_quiet (fail)
       go_wp2
       go_meet
       exact⟨by rw[b4];rfl,nq,rfl⟩
      ·go_quiet (fail)
       go_wp2
       go_meet
       exact⟨by rw[b4];rfl,nq,rfl⟩
     ·go_quiet (fail)
      go_wp2
      go_meet
      exact⟨rfl,nq,rfl⟩
    case rest=>
     obtain⟨rfl,nq,d3⟩:=hcut;obtain⟨wq,rfl⟩:=ah wc;have Z:K_ w2 wq:=(by rw[d3];exact C.drewN nq);have b5:Hid (wq.ownsRow w2.heap.size 40 7 u5 f.length xs):=(by rw[d3];exact Q.o);clear R S T U V W X Y d3 c0 c1 c2 c3 c4 c5 c6 h;obtain⟨R,S,T,U,V,W,X⟩:=(H.o.kept Z).all;have Y:=(H.o.kept Z).row.lt;have j1:=Z.size;obtain⟨cb,d4⟩:=ah ((!i && !Op.bytesLess x.name.toList r.name.toList));rw[<-d4];have d5:=Kz d4;clear d4;go_upto_if 31 with fail
     go_cut [5,6] from 14 to 50 (fun o6 i1 F=>i1= .bool (oI r (f,i) x).2/\GY w2 F P o6 (oI r (f,i) x))
     case first=>
      cases cb
      ·go_wp2
       go_meet
       have e:oI r (f,i) x= (f,i):=(by unfold oI;rw[if_neg];rintro⟨f6,i2⟩;have h3:=d5.o;dsimp only at f6;rw[f6,i2] at h3;cases h3);rw[e];exact⟨rfl,xs,b5.o,O.o,Z⟩
      ·go_wp2_with (at_builtin;refine wpList_append_own _ rfl (.tmp 32) (.tmp 34) 27 rfl w2.heap.size 40 b9 _ 7 80 underlying27 c7 c8 N c9 rfl (by decide) _ f.length _ rfl (aj b5.o (by repeat (first | (with_reducible exact K_.refl _) | apply K_.alloc | apply K_.drewN | apply K_.drew))) ⟨wq.heap.size,0,none⟩ 1 1 (r.cells j s) rfl rfl (fun m u p=>(by rw[JL];exact X_ wq (r.cells j s).toArray 40 m u (by simpa using p))) (Q_.one r j s) (by unfold maxLen;omega) (by omega) (by simp;omega) ?_;intro v6 a0 D E _;have I:K_ w2 a0:=aF (Z.trans (by repeat (first | (with_reducible exact K_.refl _) | apply K_.alloc | apply K_.drewN | apply K_.drew))) (by omega) (aj b5.o (by repeat (first | (with_reducible exact K_.refl _) | apply K_.alloc | apply K_.drewN | apply K_.drew))) E;have a1:=Kz D;clear D E)
       go_meet
       have e:oI r (f,i) x= (f++ [r],true):=(by unfold oI;rw[Kg];have h3:=d5.o;cases i <;> cases b4:Op.bytesLess x.name.toList r.name.toList <;> simp[b4] at h3⊢);rw[e];exact⟨rfl,_,(by rw[JH];exact a1.o),O.o.snoc e8.o e9.o f0.o,I⟩
     case rest=>
      obtain⟨rfl,f7,A,B,J⟩:=hcut;obtain⟨wt,rfl⟩:=ah wc;have f8:(oI r (f,i) x).1.length<=f.length+1:=by unfold oI;split <;> simp
      have a2:Hid (qK l r (k+1)=ve r (oI r (f,i) x) x):=d2.o;obtain⟨i3,hq⟩:=ah (oI r (f,i) x);rw[<-hq] at A B f8 a2⊢;obtain⟨L,qd⟩:=i3;dsimp only at A B f8;dsimp only;have⟨f9,g0⟩:=aD B A;clear B A hq R S T U V W X Y d2 O Q b5 d5;obtain⟨R,S,T,U,V,W,X⟩:=(H.o.kept J).all;have Y:=(H.o.kept J).row.lt;have j2:=J.size;obtain⟨h,c0,c1,c2,c3,c4,c5,c6⟩:=HC.o wt J;clear S T U V W X c1 c2 c3 c4 c5 c6;cases g1:(x.name.toList == r.name.toList)
      ·have a3:ve r (L,qd) x= (L++ [x],qd):=by unfold ve;rw[g1];rfl
       have a4:=Kz a3;clear a3;go_upto_region 10 with fail
       go_quiet (fail)
       obtain⟨wv,b6⟩:=ah (wt.drewN nq);rw[<-b6];have KV:K_ w2 wv:=(by rw[b6];exact J.drewN _);have g2:Hid (wv.ownsRow w2.heap.size 40 7 u5 L.length f7):=(by rw[b6];exact g0.o);clear R Y b6 c0 h;obtain⟨h,c0,c1,c2,c3,c4,c5,c6⟩:=HC.o wv KV;have j3:=KV.size;go_wp2_with (at_builtin;refine wpList_append_own _ rfl (.tmp 44) (.tmp 49) 27 rfl w2.heap.size 40 b9 _ 7 80 underlying27 c7 c8 N c9 rfl (by decide) _ L.length _ rfl (aj g2.o (by repeat (first | (with_reducible exact K_.refl _) | apply K_.alloc | apply K_.drewN | apply K_.drew))) ⟨wv.heap.size,0,none⟩ 1 1 (x.cells xa ca) rfl rfl (fun m u p=>(by rw[JL];exact X_ wv (x.cells xa ca).toArray 40 m u (by simpa using p))) (Q_.one x xa ca) (by unfold maxLen;omega) (by omega) (by simp;omega) ?_;intro v6 a0 D E _;have I:K_ w2 a0:=aF (KV.trans (by repeat (first | (with_reducible exact K_.refl _) | apply K_.alloc | apply K_.drewN | apply K_.drew))) (by omega) (aj g2.o (by repeat (first | (with_reducible exact K_.refl _) | apply K_.alloc | apply K_.drewN | apply K_.drew))) E;have a1:=Kz D;clear D E)
       go_roundw
       case rel=>exact⟨k+1,by omega,by go_num,by rw[a2.o,a4.o],by rw[a2.o,a4.o];exact⟨_,(by rw[JH];exact a1.o),f9.o.snoc h8.o h9.o i0.o,I⟩⟩
       case measure=>simp[intOf];omega
      ·have a3:ve r (L,qd) x= (L,qd):=by unfold ve;rw[g1];rfl
       have a4:=Kz a3;clear a3;go_upto_region 10 with fail
       go_quiet (fail)
       go_wp2
       go_roundw
       case rel=>exact⟨k+1,by omega,by go_num,by rw[a2.o,a4.o],by rw[a2.o,a4.o];exact⟨f7,g0.o,f9.o,J.drewN _⟩⟩
       case measure=>simp[intOf];omega
   ·have i4:k=l.length:=by omega
    subst i4;have HE:=Kz (FX (r:=r) g4.o);rw[<-f2.o] at HE;cases i
    ·go_wp2_with (at_builtin;refine wpList_append_own _ rfl (.tmp 53) (.tmp 55) 27 rfl w2.heap.size 40 b9 _ 7 80 underlying27 c7 c8 N c9 rfl (by decide) _ f.length _ rfl (aj Q.o (by repeat (first | (with_reducible exact K_.refl _) | apply K_.alloc | apply K_.drewN | apply K_.drew))) ⟨wr.heap.size,0,none⟩ 1 1 (r.cells j s) rfl rfl (fun m u p=>(by rw[JL];exact X_ wr (r.cells j s).toArray 40 m u (by simpa using p))) (Q_.one r j s) (by unfold maxLen;omega) (by omega) (by simp;omega) ?_;intro v6 a0 D E _;have I:K_ w2 a0:=aF (C.trans (by repeat (first | (with_reducible exact K_.refl _) | apply K_.alloc | apply K_.drewN | apply K_.drew))) (by omega) (aj Q.o (by repeat (first | (with_reducible exact K_.refl _) | apply K_.alloc | apply K_.drewN | apply K_.drew))) E;have a1:=Kz D;clear D E)
     go_ret
     have e:dz l r=f++ [r]:=by rw[<-HE.o];rfl
     rw[e];exact⟨v6,rfl,⟨w2,_,b3.o,I,(by rw[JH];exact a1.o),O.o.snoc e8.o e9.o f0.o⟩,b3.o.trans I⟩
    ·go_wp2
     go_ret
     have e:dz l r=f:=by rw[<-HE.o];rfl
     rw[e];exact⟨_,rfl,⟨w2,xs,b3.o,C,Q.o,O.o⟩,b3.o.trans C⟩
