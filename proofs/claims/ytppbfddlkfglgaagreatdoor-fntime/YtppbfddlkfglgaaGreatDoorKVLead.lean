import Derived.Test.YtppbfddlkfglgaaGreatDoorKVTraj
import Derived.Laws.AppendOwnNone
import Derived.BigQuiet
set_option maxRecDepth 100000
set_option maxHeartbeats 25600000
namespace Go.Proofs.YtppbfddlkfglgaaGreatDoor
open Go.RowKit Go.Proofs.Tryz
theorem Lu(w:QX)(a:QW)(cap:Nat)(l:List Q_)(r:Q_)(i:QW)(H:Nat)(hl:l.length<=100000)(i3:r.texts.length<=1000)(hr:d_ l)(P:Nat->Prop)(d6:∀b,w.heap.size<=b->P b)(hS:p_ w P a l)(hT:Strs w i r.texts)(hX:i=none->H=0):
  Calls prog 37 #[.slice a l.length cap,.agg #[.string r.name,.bool r.over,.bool r.fail,.string r.text,.b r.at',.b r.Zq,.slice i r.texts.length H]] w
   λe w'=>∃v,e=.returned v/\NS w w' P v (dH l r)/\K_ w w':=by
 have⟨d7,g3,d8⟩:=dC hX hr d6;clear hX hr d6;obtain⟨d,O⟩:=aj (w.alloc (.cells #[.string r.name,.bool r.over,.bool r.fail,.string r.text,.b r.at',.b r.Zq,.slice i r.texts.length H] 59));have kB:K_ w d:=by rw[O];exact ai _ _
 have g4:w.heap.size+1<=d.heap.size:=by rw[O];simp
 have d9:wh d w.heap.size r i H:=by
  rw[O];exact⟨aH.made w #[.string r.name,.bool r.over,.bool r.fail,.string r.text,.b r.at',.b r.Zq,.slice i r.texts.length H] 59,X_ w _ _⟩
 have⟨a5,I⟩:=aJ kB d9;clear kB d9;go_enter func37,ntmps37
 go_upto_region 1 with fail
 rw[<-O];clear O;have a6:Hid (K_ d (d.alloc (.cells #[] 9))):=ai _ _;have a7:Hid ((d.alloc (.cells #[] 9)).ownsRow d.heap.size 9 1 (.c d.heap.size 0 0) 0 (([]:List QV).map Value.string)):=Qa d #[] 0 (Pw _) (Py _) rfl;obtain⟨ic,b7,e0,e1,e2⟩:=bi Tryz.gH;go_cut [3] from 8 to 57 λs3 G=>∃p z,s3=.h w.heap.size/\K_ w G/\wh G w.heap.size r p z/\Strs G p r.texts/\(p=none->z=0)/\(∀A:Addr,p=some A->P A.block)
 case first=>
  obtain⟨q0,q1,q2,q3,q4,q5,q6⟩:=I.o.all;have qz:=I.o.row.lt;obtain⟨_,i4⟩:=I.o.row.row.at (i:=6) A7;rcases (show i=none\/∃A,i=some A from by cases i with|none=>exact .inl rfl|some x=>exact .inr ⟨x,rfl⟩) with rfl|⟨A,rfl⟩
  .have h0:r.texts=[]:=by
    cases g5:r.texts with
    |nil=>rfl
    |cons t ts=>exfalso;obtain⟨b,o,e,_⟩:=hT 0 (by rw[g5];simp);cases e
   have e3:=d7.o rfl;have e4:d.cell? ⟨w.heap.size,6,none⟩=some J6:=by rw[q6,h0,e3];rfl
   have H0:=Kz h0;clear q6 h0 e3;have q6:=e4;clear e4;go_wp2_with (at_builtin;refine wpList_append_own_none _ rfl (.tmp 8) (.tmp 10) 26 rfl d.heap.size 9 ic 1 underlying26 b7 (.c d.heap.size 0 0) 0 [] rfl a7.o rfl ?_)
   go_meet
   exact⟨_,_,rfl,K_.alloc (Below.setCell a5.o (p:=⟨w.heap.size,6,none⟩) (Pw _) _) _,(I.o.put (xa':=some ⟨d.heap.size,0,none⟩) (xc':=0) A7 (by simp[Q_.cells,H0.o])).kept (ai _ _),(λa8 hi=>by rw[H0.o] at hi;cases hi),(λe=>by cases e),λA e=>by cases e;exact d8.o _ (by show w.heap.size<=d.heap.size;omega)⟩
  .have g6:Hid (∀q u,(r.texts.map Value.string)[q]? =some u->(d.alloc (.cells #[] 9)).cell? (A.add q)=some u):=λq u s=>by
    have hj:q<r.texts.length:=by have:=(PG.1 s).1;simpa using this
    obtain⟨b,o,e,j,y⟩:=(hT.kept (a5.o.trans a6.o)) q hj;simp only[Ql] at e;subst e;rw[Qo,y];simp[hj] at s;simp[List.getD,hj,s]
   have g7:Hid (∀u∈r.texts.map Value.string,u.oneCell'=true):=λu s=>by obtain⟨x,_,rfl⟩:=PX.1 s;rfl
   have g8:d.heap.size<=(d.alloc (.cells #[] 9)).heap.size:=a6.o.size;go_wp2_with (at_builtin;refine wpList_append_own _ rfl (.tmp 8) (.tmp 10) 26 rfl d.heap.size 9 ic _ 1 16 underlying26 b7 e0 e1 e2 rfl A8 (.c d.heap.size 0 0) 0 [] rfl a7.o A r.texts.length H (r.texts.map Value.string) rfl A9 g6.o g7.o D6 A7 g8 ?_;intro v1 w8 a9 e5 _;rw[Qb,List.nil_append] at a9;have e6:=aL a6.o (Pw _) a7.o e5;have g9:=Kz a9;obtain⟨h1,h4,rfl⟩:=aG a9;have b0:=Kz (I.o.kept e6);have i5:=b0.o.all.2.2.2.2.2.2;have i6:=b0.o.row.lt;obtain⟨_,i7⟩:=b0.o.row.row.at (i:=6) A7;clear a9 e5)
   go_meet
   obtain⟨p,z,ev,b1,Q,b2⟩:=Jm (c:=w.heap.size) (p:=6) (u:=.slice h1 r.texts.length h4) g9.o A7;simp only[Qm] at ev;obtain⟨rfl,_,rfl⟩:=ev;exact⟨_,_,rfl,Below.setCell (a5.o.trans e6) (p:=⟨w.heap.size,6,none⟩) (Pw _) _,b0.o.put A7 rfl,b1,Q,λA e=>d8.o _ (Pz A7 (b2 A e))⟩
 case rest=>
  obtain⟨p,z,rfl,k2,b8,b1,e7,b2⟩:=hcut;obtain⟨f,rfl⟩:=aj wc;obtain⟨b9,c7,c8,Q,c9⟩:=bi Tryz.zC;have J:=Kz b8;have h5:=Kz (hS.kept k2);have⟨b3,e8,e9,f0⟩:=qH k2 b1 e7 b2;have i8:=b8.row.lt;clear b1 e7 b2 b8 k2 hS hT d7 a5 I a6 a7 b7 e0 e1 e2 g4;go_wp2
  go_loopw [5,6,7] (λout dn a8 wr=>∃k:Nat,k<=l.length/\a8=.b k/\dn=.bool (uZ l r k).2/\NN f wr P out (uZ l r k)) λ_ _ a8 _=>l.length-(intOf a8).toNat
  case atStart=>
   exact⟨0,Py _,rfl,rfl,[],Qa f #[] 0 (Pw _) (Py _) rfl,dE.nil _ _,ai _ _⟩
  case round=>
   obtain⟨k,hk,rfl,d0,xs,B,C,D⟩:=hrel;have f1:=Dj (l:=l) (r:=r) hk;obtain⟨h6,hp⟩:=aj (uZ l r k);rw[<-hp] at d0 B C f1;obtain⟨h,m⟩:=h6;dsimp only at d0 B C f1;subst d0;have⟨R,S,f2⟩:=dC C B hp;clear C B hp;obtain⟨T,U,V,W,X,Y,Z⟩:=(J.o.kept D).all;have a0:=(J.o.kept D).row.lt;have hz:=D.size;by_cases f3:k<l.length
   .obtain⟨b,o,i,ca,rfl,j,y,d1,f4,f5⟩:=h5.o k f3;have d2:=Kz (Bf (r:=r) f3);obtain⟨x,hx⟩:=aj (l.getD k Q_.zero);rw[<-hx,<-f2.o] at d2;rw[<-hx] at y d1;have HC:Hid (∀w',K_ f w'->b<w'.heap.size/\w'.cell? ⟨b,o+k*7,none⟩=some (.string x.name)/\w'.cell? ⟨b,o+k*7+1,none⟩=some (.bool x.over)/\w'.cell? ⟨b,o+k*7+2,none⟩=some (.bool x.fail)/\w'.cell? ⟨b,o+k*7+3,none⟩=some (.string x.text)/\w'.cell? ⟨b,o+k*7+4,none⟩=some (.b x.at')/\w'.cell? ⟨b,o+k*7+5,none⟩=some (.b x.Zq)/\w'.cell? ⟨b,o+k*7+6,none⟩=some (.slice i x.texts.length ca)):=λw' K=>⟨Px j K.size,(K.cell j).trans (y 0 _ rfl),(K.cell j).trans (y 1 _ rfl),(K.cell j).trans (y 2 _ rfl),(K.cell j).trans (y 3 _ rfl),(K.cell j).trans (y 4 _ rfl),(K.cell j).trans (y 5 _ rfl),(K.cell j).trans (y 6 _ rfl)⟩
    have⟨h7,h8,h9⟩:=dC d1 f4 f5;clear y d1 f4 f5 hx;obtain⟨j,c0,c1,c2,c3,c4,c5,c6⟩:=HC.o wr D;have i9:(k:Int)<(l.length:Int):=A7;go_upto_region 7 with fail
    go_cut [31] from 14 to 50 λc G=>c=.bool (!m && !Op.bytesLess x.name.toList r.name.toList)/\∃n,G=wr.drewN n
    case first=>
     cases m
     .cases b4:Op.bytesLess x.name.toList r.name.toList
      .go_quiet (fail)
       go_wp2
       go_meet
       exact⟨by rw[b4];rfl,nq,rfl⟩
      .go_quiet (fail)
       go_wp2
       go_meet
       exact⟨by rw[b4];rfl,nq,rfl⟩
     .go_quiet (fail)
      go_wp2
      go_meet
      exact⟨rfl,nq,rfl⟩
    case rest=>
     obtain⟨rfl,nq,d3⟩:=hcut;obtain⟨wq,rfl⟩:=aj wc;have KQ:K_ f wq:=(by rw[d3];exact D.drewN nq);have b5:Hid (wq.ownsRow f.heap.size 59 7 u5 h.length xs):=(by rw[d3];exact S.o);clear T U V W X Y Z a0 d3 c0 c1 c2 c3 c4 c5 c6 j;obtain⟨T,U,V,W,X,Y,Z⟩:=(J.o.kept KQ).all;have a0:=(J.o.kept KQ).row.lt;have j0:=KQ.size;obtain⟨cb,d4⟩:=aj ((!m && !Op.bytesLess x.name.toList r.name.toList));rw[<-d4];have d5:=Kz d4;clear d4;go_upto_if 31 with fail
     go_cut [5,6] from 14 to 50 λo6 i0 G=>i0=.bool (rZ r (h,m) x).2/\NN f G P o6 (rZ r (h,m) x)
     case first=>
      cases cb
      .go_wp2
       go_meet
       have e:rZ r (h,m) x= (h,m):=(by unfold rZ;rw[if_neg];rintro⟨f6,h2⟩;have h3:=d5.o;dsimp only at f6;rw[f6,h2] at h3;cases h3);rw[e];exact⟨rfl,xs,b5.o,R.o,KQ⟩
      .go_wp2_with (at_builtin;refine wpList_append_own _ rfl (.tmp 32) (.tmp 34) 55 rfl f.heap.size 59 b9 _ 7 80 underlying55 c7 c8 Q c9 rfl A8 _ h.length _ rfl (ay b5.o F4) ⟨wq.heap.size,0,none⟩ 1 1 (r.cells p z) rfl rfl (λq u s=>(by rw[Qo];exact X_ wq (r.cells p z).toArray 59 q u (by simpa using s))) (Q_.one r p z) D6 A7 D7 ?_;intro v6 w6 E F _;have L:K_ f w6:=aL (KQ.trans F4) A7 (ay b5.o F4) F;have a1:=Kz E;clear E F)
       go_meet
       have e:rZ r (h,m) x= (h++[r],true):=(by unfold rZ;rw[QI];have h3:=d5.o;cases m<;>cases b4:Op.bytesLess x.name.toList r.name.toList<;>simp[b4] at h3⊢);rw[e];exact⟨rfl,_,(by rw[Qi];exact a1.o),R.o.snoc e8.o e9.o f0.o,L⟩
     case rest=>
      obtain⟨rfl,f7,B,C,M⟩:=hcut;obtain⟨wt,rfl⟩:=aj wc;have f8:(rZ r (h,m) x).1.length<=h.length+1:=by unfold rZ;split<;>simp
      have a2:Hid (uZ l r (k+1)=zH r (rZ r (h,m) x) x):=d2.o;obtain⟨i1,hq⟩:=aj (rZ r (h,m) x);rw[<-hq] at B C f8 a2⊢;obtain⟨N,qd⟩:=i1;dsimp only at B C f8;dsimp only;have⟨f9,g0⟩:=aJ C B;clear C B hq T U V W X Y Z a0 d2 R S b5 d5;obtain⟨T,U,V,W,X,Y,Z⟩:=(J.o.kept M).all;have a0:=(J.o.kept M).row.lt;have j1:=M.size;obtain⟨j,c0,c1,c2,c3,c4,c5,c6⟩:=HC.o wt M;clear U V W X Y Z c1 c2 c3 c4 c5 c6;cases g1:(x.name.toList == r.name.toList)
      .have a3:zH r (N,qd) x= (N++[x],qd):=by unfold zH;rw[g1];rfl
       have a4:=Kz a3;clear a3;go_upto_region 10 with fail
       go_quiet (fail)
       obtain⟨wv,b6⟩:=aj (wt.drewN nq);rw[<-b6];have KV:K_ f wv:=(by rw[b6];exact M.drewN _);have g2:Hid (wv.ownsRow f.heap.size 59 7 u5 N.length f7):=(by rw[b6];exact g0.o);clear T a0 b6 c0 j;obtain⟨j,c0,c1,c2,c3,c4,c5,c6⟩:=HC.o wv KV;have j2:=KV.size;go_wp2_with (at_builtin;refine wpList_append_own _ rfl (.tmp 44) (.tmp 49) 55 rfl f.heap.size 59 b9 _ 7 80 underlying55 c7 c8 Q c9 rfl A8 _ N.length _ rfl (ay g2.o F4) ⟨wv.heap.size,0,none⟩ 1 1 (x.cells i ca) rfl rfl (λq u s=>(by rw[Qo];exact X_ wv (x.cells i ca).toArray 59 q u (by simpa using s))) (Q_.one x i ca) D6 A7 D7 ?_;intro v6 w6 E F _;have L:K_ f w6:=aL (KV.trans F4) A7 (ay g2.o F4) F;have a1:=Kz E;clear E F)
       go_roundw
       case rel=>exact⟨k+1,A7,C8,by rw[a2.o,a4.o],by rw[a2.o,a4.o];exact⟨_,(by rw[Qi];exact a1.o),f9.o.snoc h7.o h8.o h9.o,L⟩⟩
       case measure=>simp[intOf];omega
      .have a3:zH r (N,qd) x= (N,qd):=by unfold zH;rw[g1];rfl
       have a4:=Kz a3;clear a3;go_upto_region 10 with fail
       go_quiet (fail)
       go_wp2
       go_roundw
       case rel=>exact⟨k+1,A7,C8,by rw[a2.o,a4.o],by rw[a2.o,a4.o];exact⟨f7,g0.o,f9.o,M.drewN _⟩⟩
       case measure=>simp[intOf];omega
   .have i2:k=l.length:=A7;subst i2;have HE:=Kz (MV (r:=r) g3.o);rw[<-f2.o] at HE;cases m
    .go_wp2_with (at_builtin;refine wpList_append_own _ rfl (.tmp 53) (.tmp 55) 55 rfl f.heap.size 59 b9 _ 7 80 underlying55 c7 c8 Q c9 rfl A8 _ h.length _ rfl (ay S.o F4) ⟨wr.heap.size,0,none⟩ 1 1 (r.cells p z) rfl rfl (λq u s=>(by rw[Qo];exact X_ wr (r.cells p z).toArray 59 q u (by simpa using s))) (Q_.one r p z) D6 A7 D7 ?_;intro v6 w6 E F _;have L:K_ f w6:=aL (D.trans F4) A7 (ay S.o F4) F;have a1:=Kz E;clear E F)
     go_ret
     have e:dH l r=h++[r]:=by rw[<-HE.o];rfl
     rw[e];exact⟨v6,rfl,⟨f,_,b3.o,L,(by rw[Qi];exact a1.o),R.o.snoc e8.o e9.o f0.o⟩,b3.o.trans L⟩
    .go_wp2
     go_ret
     have e:dH l r=h:=by rw[<-HE.o];rfl
     rw[e];exact⟨_,rfl,⟨f,xs,b3.o,D,S.o,R.o⟩,b3.o.trans D⟩
section
variable {R:Nat -> Nat -> Prop}{src:List Nat}
end
