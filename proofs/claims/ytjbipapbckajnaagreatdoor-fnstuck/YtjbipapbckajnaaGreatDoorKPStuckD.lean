import Derived.Test.YtjbipapbckajnaaGreatDoorKDOrder
import Derived.Test.YtjbipapbckajnaaGreatDoorKKClean
import Derived.Test.YtjbipapbckajnaaGreatDoorKXClean
import Derived.Test.YtjbipapbckajnaaGreatDoorCards
import Derived.Test.YtjbipapbckajnaaGreatDoorTie
import Derived.Lib.SmallJoins
set_option maxRecDepth 100000
set_option maxHeartbeats 25600000
namespace Go.Proofs.YtjbipapbckajnaaGreatDoor
open Go.RowKit Go.Proofs.Tryz
def MW(L:List Qq)(Kk:List Ps)(w w':Pv)(e:Ending):Prop:=
 ∃(ro:List Ps) (T:List Qz) (ra ds da:Pt) (n:Nat),e= .returned (.agg #[.slice ra ro.length ro.length,.slice ds T.length T.length,.slice da n n])/\Strs w' ra ro/\fw w' ds T/\ro.length<=Kk.length/\(∀s∈ro,s∈Kk)/\T.length<=60/\(∀r∈T,r.texts.length<=100/\r.name.size<=20)/\(∀o ss,lq L ro T ss->gL L Kk o->Fy L ro T o ss)/\K_ w w'
theorem G_{L:List Qq}{Kk:List Ps}{j:List Int}{w w':Pv}{e:Ending}(h:Af L Kk j w w' e):MW L Kk w w' e:=by
 rcases h with⟨⟨f,a⟩,T,D,l,m,_,n,p,q,B,C,rfl,s,t,_,_,_,_,k⟩|⟨v,rfl,k⟩
 .obtain⟨x,_,i,_⟩:=EG f a l;refine⟨Kk,T,n,p,q,D.length,rfl,s.strs,t.runs,NQ _,λ_ h=>h,m,λr a=>?_,λo y b c=>Hm x i b c,k⟩;have g:=i.1.good r a;have E:=g.tl;have F:=g.hi;obtain⟨G,z,_⟩:=g.act;exact⟨A7,(cO f _ _ z).2.2.1⟩
 .exact⟨[],[],none,none,none,0,rfl,(λA d=>by simp at d),(λA d=>by simp at d),NS _,(λH h=>by cases h),NS _,(λr h=>by cases h),λo y b c=>KH v b c,k⟩
theorem IG{T:List Qz}{i:Nat}(h:i<T.length):((T.take (i+1)).filter λr=>!r.over).length= ((T.take i).filter λr=>!r.over).length+if (T.getD i Qz.zero).over=true then 0 else 1:=by
 rw[NY h,List.filter_append,OD];simp only[List.getD,NV h,Ph];cases e:T[i].over <;> simp[e]
theorem IP(w:Pv)(a:Pt)(c3:Nat)(X:List UInt8)(hB:BytesAt w a X)(i2:X.length<=c3)(e2:dA w):
  Calls prog 4 #[.slice a X.length c3] w λe w'=>e= .returned (.bool true)/\K_ w w':=by
 by_cases l3:(1048576:Int)<(X.length:Int)
 .go_enter func4,ntmps4
  go_wp2
  go_ret
  exact⟨rfl,K_.refl _⟩
 go_enter func4,ntmps4
 go_wp2_with fail
 refine (zt _ a c3 X hB i2 A7).mono ?_;rintro e Y ⟨s,t,L,g,c,Kk,pa,pc,i3,rfl,hL,e5,hG,e6,l4,e7,hT,l5,e8,hP,k1⟩;obtain⟨Z,a0⟩:=ai (Y.alloc (.cells #[.slice s L.length t] 25));obtain⟨x,c4⟩:=ai Y.heap.size;have a1:K_ Y Z:=by rw[a0];exact ah _ _
 have c6:=Kz (k1.trans a1);have i4:Z.heap.size=Y.heap.size+1:=by rw[a0];simp
 have HC:Hid (∀u,K_ Z u->J4 u x 0 (.slice s L.length t)/\x<u.heap.size):=λu j=>by
  have hz:=j.size;refine⟨(j.cell A7).trans ?_,A7⟩;rw[a0,c4];exact Xz Y _ _ 0 _ rfl
 have c7:=Kz (hG.kept a1).nodes;have d0:=Kz (hT.strs.kept a1);have e9:=Kz (hP.kept a1);have d1:=Kz (e2.kept c6.o);have a2:Hid (∀d∈L,d.Fits):=λd hd=>(e5 d hd).fits A7
 have b0:Hid (∀B∈Kk,B.size<=maxLen):=λB hs=>by have:=e7 B hs;unfold maxLen;omega
 have f0:=Kz e8;go_upto_region 4 with fail
 rw[<-a0,<-c4];clear a0 c4 e5 hG hT hP k1 a1 i4 e2 hB e7 e8;obtain⟨C,D⟩:=HC.o Z (K_.refl _);go_wp2_with fail
 refine (zm Z s t L (some ⟨g,0,none⟩) c Kk pa pc i3 A7 a2.o A7 e6 b0.o A7 f0.o c7.o d0.o e9.o d1.o).mono ?_;intro e J hE;obtain⟨f,T,y,z,da,n3,rfl,f1,f2,l6,f3,l7,d2,f4,k2⟩:=G_ hE;clear hE;have i5:(Instr.field 34 (.agg #[.slice y f.length f.length,.slice z T.length T.length,.slice da n3 n3]) 0).run prog J= .ok (.agg #[.slice y f.length f.length,.slice z T.length T.length]) J:=C9;obtain⟨a3,a4⟩:=ai (J.alloc (.cells #[.slice y f.length f.length,.slice z T.length T.length] 32));obtain⟨m,b1⟩:=ai J.heap.size;have v:K_ J a3:=by rw[a4];exact ah _ _
 have b2:=Xz J #[.slice y f.length f.length,.slice z T.length T.length] 32;rw[<-a4,<-b1] at b2;have b3:m<a3.heap.size:=by rw[a4,b1];simp
 have M:=k2.trans v;have HX:Hid (∀u,K_ a3 u->J4 u x 0 (.slice s L.length t)/\J4 u m 0 (.slice y f.length f.length)/\J4 u m 1 (.slice z T.length T.length)/\x<u.heap.size/\m<u.heap.size):=λu j=>by
  obtain⟨e1,d3⟩:=HC.o u (M.trans j);exact⟨e1,(j.cell b3).trans (b2 0 _ rfl),(j.cell b3).trans (b2 1 _ rfl),d3,NR b3 j.size⟩
 have f5:=Kz f4;have f6:Hid (∀r∈T,r.texts.length<=1048576):=λr E=>by have:=(d2 r E).1;omega
 have i6:Hid (∀r∈T,r.name.size<=20):=λr E=>(d2 r E).2
 have f7:Hid (∀B∈f,B.size<=maxLen):=λB hs=>b0.o B (f3 B hs)
 have d4:=Kz (d1.o.kept M);have b4:=Kz (c7.o.kept M);have f8:=Kz (f1.kept v);have d5:=Kz (f2.kept v);have f9:=Kz (d0.o.kept M);have i7:=Kz (c6.o.trans M);go_upto_region 5 with fail
 rw[<-a4,<-b1];clear a4 b1 k2 v f1 f2 b2 b3 M C D HC c7 d0 e9 f0 d1 c6 f4 d2 f3 i5;obtain⟨C,D,N,O,P⟩:=HX.o a3 (K_.refl _);go_wp2_with fail
 refine (zS a3 s t L y f.length f z T.length T A7 a2.o D5 (NQ _) f7.o A7 f6.o b4.o f8.o d5.o d4.o).mono ?_;rintro e w3 ⟨sa,G,rfl,g0,d6,v⟩;have⟨g1,g2⟩:=aH g0.strs d6;have l8:=d6.len;clear g0 d6 C D N O P;obtain⟨C,D,N,O,P⟩:=HX.o w3 v;go_wp2_with fail
 refine (za w3 s t L (some ⟨g,0,none⟩) c Kk A7 a2.o D5 e6 b0.o (b4.o.kept v) (f9.o.kept v) (d4.o.kept v)).mono ?_;rintro e w4 ⟨o,y1,y2,y3,Q,l9,rfl,b5,g3,g4,_,_,k4⟩;obtain⟨W4,a5⟩:=ai (w4.alloc (.cells #[.a o.code,.slice y1 o.res.length y3,.slice y2 o.chain.length Q,.a o.dS,.a o.cost] 43));obtain⟨l,b6⟩:=ai w4.heap.size;have k5:K_ w4 W4:=by rw[a5];exact ah _ _
 have H:=Xz w4 #[.a o.code,.slice y1 o.res.length y3,.slice y2 o.chain.length Q,.a o.dS,.a o.cost] 43;rw[<-a5,<-b6] at H;have I:l<W4.heap.size:=by rw[a5,b6];simp
 have K4:=(v.trans k4).trans k5;have HY:Hid (∀u,K_ W4 u->J4 u x 0 (.slice s L.length t)/\J4 u m 0 (.slice y f.length f.length)/\J4 u m 1 (.slice z T.length T.length)/\J4 u l 0 (.a o.code)/\J4 u l 1 (.slice y1 o.res.length y3)/\J4 u l 2 (.slice y2 o.chain.length Q)/\J4 u l 3 (.a o.dS)/\J4 u l 4 (.a o.cost)/\x<u.heap.size/\m<u.heap.size/\l<u.heap.size):=λu j=>by
  obtain⟨e1,d3,e3,e4,i8⟩:=HX.o u (K4.trans j);exact⟨e1,d3,e3,(j.cell I).trans (H 0 _ rfl),(j.cell I).trans (H 1 _ rfl),(j.cell I).trans (H 2 _ rfl),(j.cell I).trans (H 3 _ rfl),(j.cell I).trans (H 4 _ rfl),e4,i8,NR I j.size⟩
 have R:=Kz (f5.o o G g2.o b5);have i9:=Kz b5;have m0:=b5.1;have g5:=Kz (g1.o.kept (k4.trans k5));have j0:=Kz (oO.kept g3.Nn k5);have d7:=Kz (g4.strs.kept k5);have a6:=Kz K4;go_upto_region 7 with fail
 rw[<-a5,<-b6];clear a5 b6 v k4 k5 H I K4 b5 g3 g4 g1 g2 f5 C D N O P;go_wp2
 go_loopg [9,10] T.length (λgg x9 j1 wr=>∃i:Nat,x9= .a ((((T.take i).filter λr=>!r.over).length:Nat):Int)/\j1= .a (i:Int)/\i+gg=T.length/\wr=W4)
 case atStart=>exact⟨0,rfl,rfl,A7,rfl⟩
 case round=>
  obtain⟨i,rfl,rfl,hi,g6⟩:=hrel;obtain rfl:=g6.symm;clear g6;obtain⟨C,D,N,O,P,g7,g8,g9,b8,h0,h3⟩:=HY.o _ (K_.refl _);by_cases h4:(i:Int)<(T.length:Int)
  .have p:i<T.length:=A7;obtain⟨tb,m1,xa,xc,rfl,hb,b7,_,_⟩:=(d5.o.kept a6.o) i p;have d8:=IG p;obtain⟨r,E⟩:=ai (T.getD i Qz.zero);obtain⟨n,S⟩:=ai (((T.take i).filter λr=>!r.over).length);rw[<-E] at b7;rw[<-E,<-S] at d8;have h5:r∈T:=by rw[E];simp only[List.getD,NV p,Ph];exact Oa p
   have m2:n<=60:=by
    have h1:=List.length_filter_le (λr:Qz=>!r.over) (T.take i);rw[Oo,<-S] at h1;omega
   have j2:Hid (r.over=false->r.name∈G):=R.o.one r h5;have h6:=Kz d8;rw[<-S];have q0:=b7 0 _ rfl;have q1:=b7 1 _ rfl;rw[OJ] at q0;clear E S d8 h5 b7;rcases (show r.over=true\/r.over=false by cases r.over <;> simp) with ho | ho
   .have HO:=Kz ho;rw[ho] at q1;clear ho;go_wp2
    go_roundg (gk-1)
    case measure=>omega
    case rel=>exact⟨i+1,by rw[h6.o,HO.o];rfl,C8,A7,rfl⟩
   .have HO:=Kz ho;rw[ho] at q1;clear ho;go_wp2_with fail
    refine (BP _ sa G.length G r.name A7 g5.o).mono ?_;rintro e w8 ⟨F,rfl⟩;rcases F.cases with⟨rfl,_⟩|⟨rfl,a7⟩;rotate_left
    .exact Pg (j2.o HO.o) a7
    clear F;go_wp2
    go_roundg (gk-1)
    case measure=>omega
    case rel=>exact⟨i+1,by (rw[h6.o,HO.o];go_num),C8,A7,rfl⟩
  .have ei:T.take i=T:=Oy A7;rw[ei,R.o.len];clear ei;have hq:((o.code == 1) == decide (0<o.chain.length))=true:=by rw[R.o.code];simp
   go_wp2
   clear hq;go_loopg [11] o.chain.length (λgg j3 wr=>∃i:Nat,j3= .a (i:Int)/\i+gg=o.chain.length/\K_ W4 wr)
   case atStart=>exact⟨0,rfl,A7,K_.refl _⟩
   case round=>
    clear C D N O P g7 g8 g9 b8 h0 h3 h4 hi;obtain⟨i,rfl,hi,q⟩:=hrel;obtain⟨C,D,N,O,P,g7,g8,g9,b8,h0,h3⟩:=HY.o _ q;by_cases h4:(i:Int)<(o.chain.length:Int)
    .have p:i<o.chain.length:=A7;obtain⟨U,hx⟩:=ai (o.chain.getD i ByteArray.empty);obtain⟨V,hj⟩:=ai ((i+1) % o.chain.length);obtain⟨d9,hy⟩:=ai (o.chain.getD V ByteArray.empty);have j4:V<o.chain.length:=by rw[hj];exact Nat.mod_lt _ A7
     have m3:U.size<=20:=by
      obtain⟨r,h1,h2⟩:=R.o.run i p;rw[hx,<-h2];exact i6.o r h1
     have j5:Hid (U∈G):=by rw[hx];exact R.o.inn i p
     have j6:Hid (∀ns,mY L f T U ns->d9∈ns):=λns S=>by
      have W:=R.o.wait i p ns (by rw[<-hx];exact S);rw[<-hj,<-hy] at W;exact W
     obtain⟨lb,lo,rfl,_,_⟩:=d7.o i p;have b9:Hid (∀u,K_ wr u->J4 u x 0 (.slice s L.length t)/\J4 u m 0 (.slice y f.length f.length)/\J4 u m 1 (.slice z T.length T.length)/\J4 u l 2 (.slice (some ⟨lb,lo,none⟩) o.chain.length Q)/\J4 u lb (lo+i) (.string U)/\J4 u lb (lo+V) (.string d9)/\x<u.heap.size/\m<u.heap.size/\l<u.heap.size/\lb<u.heap.size):=λu j=>by
      have hS:=(d7.o.kept q).kept j;obtain⟨b,m4,e,hb,hc⟩:=hS i p;obtain⟨b',o2,e',m5,j7⟩:=hS V j4;simp only[OE,Po,and_true] at e e';obtain⟨rfl,rfl⟩:=e;obtain⟨rfl,rfl⟩:=e';obtain⟨j8,c1,j9,_,_,c5,_,_,c8,c9,k0⟩:=HY.o u (q.trans j);exact⟨j8,c1,j9,c5,by rw[hx];exact hc,by rw[hy];exact j7,c8,c9,k0,hb⟩
     have m6:IntKind.i64.wrap ((i:Int)+1)= (i:Int)+1:=E8;have m7:((i:Int)+1).tmod (o.chain.length:Int)= (V:Int):=by rw[Int.tmod_eq_emod_of_nonneg A7,hj,Int.natCast_emod];simp
     have m8:¬o.chain=[]:=λe=>by rw[e] at p;simp at p
     have m9:(V:Int)<(o.chain.length:Int):=A7;have KX:=a6.o.trans q;clear hx hy hj;go_upto_region 20 with fail
     refine bn 29 b9.o λwd A h=>?_
     refine ax 0 h ?_;refine ae 4 h ?_;refine ae 5 h ?_;refine aF 6 (λK k=>?_);go_simp
     go_at_call 14
     refine (BP wd sa G.length G U A7 (g5.o.kept (q.trans A))).mono ?_;rintro e w7 ⟨F,a8⟩;rcases F.cases with⟨rfl,_⟩|⟨rfl,a7⟩;rotate_left
     .exact Pg j5.o a7
     rw[a8];clear a8 w7 F;dsimp only;refine af k (λ_=>h) ?_;clear k K;refine ax 7 h ?_;refine ax 11 h ?_;refine ae 15 h ?_;refine ax 17 h ?_;refine ax 21 h ?_;refine ae 25 h ?_;refine ae 26 h ?_;refine aF 16 (λK k=>?_);go_simp
     go_at_call 15
     refine (yR wd s t L y f.length f z T.length T U D5 A7 a2.o D5 (Nat.le_refl _) f7.o A7 f6.o (b4.o.kept (KX.trans A)) (f8.o.kept (KX.trans A)) (d5.o.kept (KX.trans A)) (d4.o.kept (KX.trans A))).mono ?_;rintro e w6 ⟨va,vs,rfl,h7,e0,k6⟩;have k3:=Kz h7.strs;have k8:=Kz (j6.o vs e0);have n0:=e0.len;have c0:=A.trans k6;clear h7 e0 k6;dsimp only;refine af k (λ_=>b9.o _ c0) ?_;clear k K h;have h:=b9.o _ c0;refine aF 27 (λK k=>?_);go_simp
     go_at_call 14
     refine (BP w6 va vs.length vs d9 A7 k3.o).mono ?_;rintro e w7 ⟨F,a8⟩;rcases F.cases with⟨rfl,_⟩|⟨rfl,a7⟩;rotate_left
     .exact Pg k8.o a7
     rw[a8];clear a8 w7 F;dsimp only;refine af k (λ_=>b9.o _ c0) ?_;clear k K;refine ae 28 h ?_;refine aj 29 (λK k=>?_);go_simp
     refine af k (λW=>Pg rfl W) ?_;clear k K;refine aG ?_;go_wp2
     go_roundg (gk-1)
     case measure=>omega
     case rel=>exact⟨i+1,C8,A7,q.trans c0⟩
    .go_upto_region 22 with fail
     have c2:Hid (∀u,K_ wr u->J4 u x 0 (.slice s L.length t)/\J4 u m 0 (.slice y f.length f.length)/\J4 u m 1 (.slice z T.length T.length)/\J4 u l 0 (.a o.code)/\J4 u l 1 (.slice y1 o.res.length y3)/\J4 u l 2 (.slice y2 o.chain.length Q)/\J4 u l 3 (.a o.dS)/\J4 u l 4 (.a o.cost)/\x<u.heap.size/\m<u.heap.size/\l<u.heap.size):=λu j=>HY.o u (q.trans j)
     refine bn 5 c2.o λwd A h=>?_
     refine ae 0 h ?_;refine ae 1 h ?_;refine ae 2 h ?_;refine aF 3 (λK k=>?_);go_simp
     go_at_call 11
     refine (zA wd s t L (some ⟨g,0,none⟩) c Kk A7 a2.o A7 b0.o (b4.o.kept (a6.o.trans (q.trans A))) (f9.o.kept (a6.o.trans (q.trans A)))).mono ?_;rintro e w7 ⟨k9,z1,z2,z3,z4,rfl,h8,h9,i0,k7⟩;obtain rfl:=i9.o.one h8;have⟨l0,l1⟩:=aH h9 i0;have a9:=A.trans k7;clear h8 h9 i0 k7;dsimp only;refine af k (λ_=>c2.o _ a9) ?_;clear k K h;have h:=c2.o _ a9;refine aF 4 (λK k=>?_);go_simp
     go_at_call 16
     refine (Ca w7 y1 z1 y2 z2 y3 z3 Q z4 k9 A7 A7 (j0.o.kept (q.trans a9)) l0.o (d7.o.kept (q.trans a9)) l1.o).mono ?_;rintro e w8 ⟨rfl,l2⟩;have i1:=a9.trans l2;dsimp only;refine af k (λ_=>c2.o _ i1) ?_;clear k K h;refine aj 5 (λK k=>?_);go_simp
     refine af k (λW=>Pg rfl W) ?_;clear k K;refine aG ?_;go_wp2
     go_ret
     exact⟨rfl,i7.o.trans (a6.o.trans (q.trans i1))⟩
open Go.RowKit Go.Deep Go.ChangeShapes
section
variable {H : Type} {enc : TypeId × Pw -> H} {w : Pv} {base : Nat} {spare : Nat -> Bool} {held : Bool}
theorem Tryz.cellsByte :prog.cellsOf 5=1:=C9
theorem GA{fuel:Nat}{cs:List Pw}{x:DataW H×List MemPlace}(j:DataW.trod enc prog w base spare held fuel 22 cs=some x):
  ∃a bs c,cs=[.slice a (bs:List UInt8).length c]/\BytesAt w a bs/\bs.length<=maxLen/\bs.length<=c:=by
 rcases open_ints underlying22 underlying5 Tryz.cellsByte j with⟨rfl,_⟩|⟨a,len,c,b,rfl,_,k,y,l,_,h,m⟩
 .exact⟨none,[],0,rfl,λi d=>aT d,NS _,NS _⟩
 .have z:len<=b.length:=by rw[l];split <;> omega
  have e:((b.take len).map λn=>UInt8.ofNat n.toNat).length=len:=D6;refine⟨some a,(b.take len).map λn=>UInt8.ofNat n.toNat,c,by rw[e],λi d=>?_,by rw[e];omega,by rw[e];exact k⟩;rw[e] at d;obtain⟨p,q,r⟩:=a;have s:r=none:=by simpa[Addr.add] using World.cell?_spot (h 0 A7)
  subst s;have f:=h i A7;rw[OI] at f;refine⟨p,q,rfl,World.block_lt_of_cell? _ _ f, ?_⟩;rw[f];have t:=m (b.getD i 0) (by simp[List.getD,(A7:i<b.length)]);simp[Lit.wf,IntKind.min,IntKind.max,IntKind.signed,IntKind.bits] at t;have v:(((b.take len).map λn=>UInt8.ofNat n.toNat).getD i 0)=UInt8.ofNat (b.getD i 0).toNat:=by simp[List.getD,d,(A7:i<b.length)]
  rw[v];simp;omega
end
open Go.ChangeShapes Go.WideShapes Go.ChangeAt Go.RowKit Go.Joins Go.ChangeMaps
theorem Tryz.NL :ownKnob prog.godebug=none:=C9
theorem Tryz.Ja :laidOutB prog=true:=C9
theorem zD{w:Pv}(h:oI w):dA w:=λW give a b l k c d e f=>Fb W give a b l c d e f (h.kept k)
theorem Bd(os:Os)(r:os.Started)(H:Type)(enc:TypeId×Pw->H):
  ReturnsInHanded {} Tryz.checked os 4 .any (λw args=>(Rows.fnStuckSpec.pre enc prog f4 [] false w args/\laidMetH prog laid3 w)/\sizedMet enc prog f4 (OpenSpec.ofChange Rows.fnStuckSpec) false w args)
   (Rows.fnStuckSpec.post enc prog f4 false true false false):=by
 refine returnsInHanded_of_change_and (C:=Tryz.checked) (X:=λw _=>laidMetH prog laid3 w) (λ_ _ _ s h=>h.of_heap s) Tryz.NL r C9 func4
  (ChangeSpec.witness_shaped (enc:=enc) (C:=Tryz.checked) (os:=os) (X:=λw _=>laidMetH prog laid3 w) false (World.doorLaid prog 400 os) #[J3] 8 rfl (World.shaped_of_RefB C9 C9) C9 C9 C9 (JG os _)) ?_
 intro W base args y S before c d _ _ z _;have e:∀(j:Nat) t v,f4.params[j]? =some t->args[j]? =some v->Value.okWide prog W .any base t v:=c;have f:=d;obtain⟨A,T,i,B,rfl,U,V⟩:=d;have k:DataW.TrodAll enc prog W 0 (λ_=>true) true f4.params.toList args.toList y A:=i;rw[params4] at k e;obtain⟨l,Y,Z,a0,D,q0,a1,rfl,rfl,m,E⟩:=trodAll_cons k;obtain⟨rfl,rfl,rfl⟩:=trodAll_nil E;obtain rfl:args= #[l]:=by cases args;simp_all
 obtain⟨rfl,rfl⟩:=trodVars_none B;have b:=m;have F:∀x∈D,x.block<W.heap.size:=by obtain⟨G,I⟩:=b;exact DataW.trod_lt G _ _ _ I
 obtain⟨J,K,L,rfl⟩:=okWide_slice underlying22 (e 0 22 l rfl rfl);obtain⟨a2,M⟩:=m;obtain⟨a,n,p,N,O,hl,P⟩:=GA M;have Q:Value.slice J K L= .slice a n.length p:=by simpa[Value.cells] using N
 rw[Q] at b f⊢;clear i c;refine (IP W a p n O P (zD (CG z))).mono λa3 W' ⟨R,q⟩=>?_
 subst R;exact⟨_,rfl,_,_,_,[],_,[],f,trodAll_mk1 (shut_bool underlying4 _),(trodAll_cons_mk (Below.trod Tryz.Ja C9 (of_decide_eq_true C9) b q F) trodAll_mk0),rfl,Below.frame q _,λh=>by cases h⟩
theorem Dl :Rows.FnStuckSaid:=
 OpenClaim.holds_of_wide 4 f4 rfl rfl rfl rfl rfl rfl rfl ⟨rfl,rfl,rfl,rfl,rfl⟩ rfl rfl rfl rfl rfl C9 func4 C9
  (of_decide_eq_true C9) (by unfold Func.isWrapper;first | (rw[Pe (by decide+kernel)];kernel_rfl) | (rw[Pf (by decide+kernel)];exact⟨rfl,rfl⟩))
  (λa b H d _=>Bd a b H d)
theorem stuckDCardHolds :Rows.FnStuckCardSaid:=
 Claim7.holds_tied_plain_at .later [] [.data,.data,.data] true Rows.fnStuckCard.stood.harness Rows.fnStuckCard.stood.looks
  Dl (λ_ h=>by cases h) C9 (λ_ h=>by cases h) fnStuck_row_tie rfl ⟨rfl,rfl⟩ C9 rfl
  (λf fn b c=>by
   obtain rfl:f=4:=OQ ((show prog.funcNamed Rows.fnStuckRow.func=some 4 by kernel_rfl).symm.trans b) |>.symm;obtain rfl:fn=f4:=(OQ (func4.symm.trans c)).symm;exact⟨C9,λj t a=>by
    rw[params4] at a;have d:t∈[22]:=by simpa using Array.mem_of_getElem? a
    have e:([22].all λu=>!prog.wantsStandIn u)=true:=C9;exact (show prog.wantsStandIn t=false by simpa using List.all_eq_true.1 e t d)⟩)
  C9
