import Derived.Test.YtbmhchdegdjfkaaGreatDoorKVAppr
import Derived.Deep.RegionLaw
set_option maxRecDepth 100000
set_option maxHeartbeats 25600000
namespace Go.Proofs.YtbmhchdegdjfkaaGreatDoor
open Go.RowKit Go.Proofs.Tryz
def zi(v:LK):List LQ:=[.string v,.bool false,.bool false,.string ⟨#[]⟩,.int .i64 0,.int .i64 0,.slice none 0 0]
theorem BV(v:LK):∀u∈zi v,u.oneCell'=true:=Qz.one (Qz.fresh v) none 0
theorem xW(r w:LP)(f:Nat)(a9:r.heap.size<=f)(a:LM)(m:Nat)(c:List Qq)(Y:LM)(rc:Nat)(names:List LK)(l:List Qz)(Z:LM)(a0:Nat)(a1:List LQ)(N:c.length<=1048576)(c4:names.length<=100)(c5:l.length<=1000)
  (h:KnX r w f a c.length m l Z a0 a1) (O:bN r a c) (hR:Strs r Y names):
  Calls prog 85 #[.pointer (some ⟨f,0,none⟩),.slice Y names.length rc] w fun e w'=>e= .returned (.tuple #[])/\∃d j s,KnX r w' f a c.length m (fw (Q_ c) l names) d j s:=by
 have HK:=Kz h;clear h;go_enter func85,ntmps85
 go_wp2
 go_loopw [4] (fun i wr=>∃(k:Nat) (d:LM) (j:Nat) (s:List LQ),k<=names.length/\i= .int .i64 k/\KnX r wr f a c.length m (fw (Q_ c) l (names.take k)) d j s) (fun i _=>names.length-(intOf i).toNat)
 case atStart=>exact⟨0,Z,a0,a1,JR _,rfl,HK.o⟩
 case round=>
  obtain⟨k,d,j,s,hk,rfl,p⟩:=hrel;by_cases a2:k<names.length
  ·obtain⟨q,o,rfl,G,P⟩:=hR k a2;have B:K_ r wr:=p.kw;obtain⟨R,Q⟩:=aj (fw (Q_ c) l (names.take k));have H:=CV (Q_ c) l a2;rw[<-Q] at p H;have c6:R.length<=1100:=by rw[Q];have:=oF (Q_ c) (names.take k) l;rw[Kt] at this;omega
   obtain⟨v,a3⟩:=aj (names.getD k ByteArray.empty);rw[<-a3] at P H;have S:=Kz H;have I:=(B.cell G).trans P;have T:=p.known.web;have U:=p.known.runs;have J:=p.known.row.lt;have⟨a4,t⟩:=aH p.runs p;clear Q a3 H p HK;have V:q<wr.heap.size:=JQ G B.size;have i0:(k:Int)<(names.length:Int):=by omega
   by_cases C:(Q_ c v).isSome=true
   ·have D:Hid (∀w',K_ wr w'->(fun w'=>w'.cell? ⟨f,0,none⟩=some (.slice a c.length m)/\w'.cell? ⟨f,1,none⟩=some (.slice d R.length j)/\w'.cell? ⟨q,o+k,none⟩=some (.string v)) w'):=fun w' x=>⟨(x.cell J).trans T,(x.cell J).trans U,(x.cell V).trans I⟩
    by_cases L:(Qj R v).isNone=true
    ·go_wp2
     go_region_held (fun w'=>w'.cell? ⟨f,0,none⟩=some (.slice a c.length m)/\w'.cell? ⟨f,1,none⟩=some (.slice d R.length j)/\w'.cell? ⟨q,o+k,none⟩=some (.string v)) (exact a_ D _ (by repeat (first | (with_reducible exact K_.refl _) | (with_reducible assumption) | apply K_.drew))) ((first | (go_at_call 44;refine (Ak _ a m c v N (O.kept (B.trans (by repeat (first | (with_reducible exact K_.refl _) | (with_reducible assumption) | apply K_.drew)))) C).mono ?_;rintro e w1 ⟨⟨r1,rfl⟩,E⟩;have n:K_ wr w1:=K_.trans (by repeat (first | (with_reducible exact K_.refl _) | (with_reducible assumption) | apply K_.drew)) E) | (go_at_call 123;refine (Ga _ f a c.length m d j R v (by omega) (t.o.known.kept (n.trans (by repeat (first | (with_reducible exact K_.refl _) | (with_reducible assumption) | apply K_.drew)))) (a4.o.kept (n.trans (by repeat (first | (with_reducible exact K_.refl _) | (with_reducible assumption) | apply K_.drew)))) L).mono ?_;rintro e w2 ⟨⟨r2,rfl,c7⟩,rfl⟩)))
     all_goals
      have F:=t.o.kept n;have W:=Kz F;have n1:=F.known.runs;have n0:=(n.cell V).trans I;have z2:=F.kw.size;have b0:q<w2.heap.size:=JQ G z2;have b1:f<w2.heap.size:=F.known.row.lt;have b2:Hid (∀w',K_ w2 w'->(fun w'=>w'.cell? ⟨f,1,none⟩=some (.slice d R.length j)/\w'.cell? ⟨q,o+k,none⟩=some (.string v)) w'):=fun w' bl=>⟨(bl.cell b1).trans n1,(bl.cell b0).trans n0⟩
      obtain⟨b3,b4,b5,b6,b7⟩:=aQ Tryz.ou;clear F;go_wp2
      refine Qx.region (by kernel_rfl) (fun w'=>w'.cell? ⟨f,1,none⟩=some (.slice d R.length j)/\w'.cell? ⟨q,o+k,none⟩=some (.string v)) 14 ⟨n1,n0⟩ (fun b=>?_);refine au 0 b ?_;refine au 4 b ?_;refine af 8 b ?_;refine af 9 b ?_;refine ah 10 (fun K h=>?_);go_simp
      have M:K_ w2 (w2.alloc (.cells (zi v).toArray 40)).drew:=(ag _ _).drew;refine ae h (fun _=>b2.o _ M) ?_;clear h K b;refine ah 11 (fun K h=>?_);refine step_append_lies _ rfl (.tmp 34) (.tmp 40) 27 rfl r.heap.size 40 b3 _ 7 80 underlying27 b4 b5 b6 b7 rfl (by decide) (.slice d R.length j) R.length s (by simp[Act.eval]) (ai W.o.own M) ⟨w2.heap.size,0,none⟩ 1 1 (zi v) (by simp[Act.eval]) rfl (fun b8 u hu=>by rw[KZ];exact Xz w2 (zi v).toArray 40 b8 u (by simpa using hu)) (BV v) (by omega) (by unfold maxLen;omega) (by omega) (by simp;omega) _ rfl ?_;intro g6 b9 w8 a5 X c0 c8;obtain⟨c1,a6⟩:=W.o.grown M X;have a7:=a6.row;obtain⟨⟨_,c9⟩,d0⟩:=a7.row.at (i:=1) (by omega);have a8:=(show _/\_ from ⟨a6.runs,(c1.cell G).trans P⟩);have c2:=Kz (KnX.next (y:=Qz.fresh v) (xa:=none) (xc:=0) W.o a9 M X a5 (fun i hi=>by cases hi) (fun _=>rfl));clear a5 X c0 a7;refine ae h (fun _=>a8) ?_;clear h K;have b:=a8;refine af 12 b ?_;refine af 13 b ?_;refine ah 14 (fun K h=>?_);go_simp
      refine ae h (fun A=>Lv rfl A) ?_;clear h K;refine aB ?_;go_wp2
      go_roundw
      case rel=>exact⟨k+1,_,b9,_,by omega,by go_num,by rw[S.o,Lt ⟨C,L⟩];exact c2.o⟩
      case measure=>simp[intOf];omega
    ·go_wp2
     go_region_held (fun w'=>w'.cell? ⟨f,0,none⟩=some (.slice a c.length m)/\w'.cell? ⟨f,1,none⟩=some (.slice d R.length j)/\w'.cell? ⟨q,o+k,none⟩=some (.string v)) (exact a_ D _ (by repeat (first | (with_reducible exact K_.refl _) | (with_reducible assumption) | apply K_.drew))) ((first | (go_at_call 44;refine (Ak _ a m c v N (O.kept (B.trans (by repeat (first | (with_reducible exact K_.refl _) | (with_reducible assumption) | apply K_.drew)))) C).mono ?_;rintro e w1 ⟨⟨r1,rfl⟩,E⟩;have n:K_ wr w1:=K_.trans (by repeat (first | (with_reducible exact K_.refl _) | (with_reducible assumption) | apply K_.drew)) E) | (go_at_call 123;refine (F_ _ f a c.length m d j R v (by omega) (t.o.known.kept (n.trans (by repeat (first | (with_reducible exact K_.refl _) | (with_reducible assumption) | apply K_.drew)))) (a4.o.kept (n.trans (by repeat (first | (with_reducible exact K_.refl _) | (with_reducible assumption) | apply K_.drew)))) L).mono ?_;rintro e w2 ⟨⟨r2,rfl⟩,rfl⟩)))
     all_goals
      go_wp2
      go_roundw
      case rel=>exact⟨k+1,d,j,s,by omega,by go_num,by rw[S.o,Lu (fun A=>L A.2)];exact t.o.kept n⟩
      case measure=>simp[intOf];omega
   ·have D:Hid (∀w',K_ wr w'->(fun w'=>w'.cell? ⟨f,0,none⟩=some (.slice a c.length m)/\w'.cell? ⟨f,1,none⟩=some (.slice d R.length j)/\w'.cell? ⟨q,o+k,none⟩=some (.string v)) w'):=fun w' x=>⟨(x.cell J).trans T,(x.cell J).trans U,(x.cell V).trans I⟩
    go_wp2
    refine Qx.region (by kernel_rfl) (fun w'=>w'.cell? ⟨f,0,none⟩=some (.slice a c.length m)/\w'.cell? ⟨f,1,none⟩=some (.slice d R.length j)/\w'.cell? ⟨q,o+k,none⟩=some (.string v)) 18 ⟨T,U,I⟩ (fun b=>?_);refine au 0 b ?_;refine au 4 b ?_;refine ak 8 (fun K h=>?_);go_simp
    go_at_call 44
    refine (Fw _ a m c v N (O.kept (B.trans (by repeat (first | (with_reducible exact K_.refl _) | (with_reducible assumption) | apply K_.drew)))) C).mono ?_;rintro e w1 ⟨rfl,E⟩;have n:K_ wr w1:=K_.trans (by repeat (first | (with_reducible exact K_.refl _) | (with_reducible assumption) | apply K_.drew)) E;dsimp only;refine h.out _ _ (fun _=>D.o w1 n) ?_;clear h K b;have b:=D.o w1 n;try simp only[upP]
    refine af 9 b ?_;refine af 10 b ?_;refine aD 11 b ?_;refine aD 12 b ?_;refine aD 13 b ?_;refine aD 14 b ?_;refine aD 15 b ?_;refine aD 16 b ?_;refine aD 17 b ?_;refine ah 18 (fun K h=>?_);go_simp
    refine ae h (fun A=>Lv rfl A) ?_;clear h K;refine aB ?_;go_wp2
    go_roundw
    case rel=>exact⟨k+1,d,j,s,by omega,by go_num,by rw[S.o,Lu (fun A=>C A.1)];exact t.o.kept n⟩
    case measure=>simp[intOf];omega
  ·have c3:k=names.length:=by omega
   subst c3;rw[KI] at p;have t:=Kz p;clear p;go_wp2
   go_end0
   exact⟨rfl,_,_,_,t.o⟩
theorem pG{l a:List LK}(c:l.length=a.length)(h:∀j,j<l.length->l.getD j ByteArray.empty=a.getD j ByteArray.empty):l=a:=by
 refine List.ext_getElem c fun i b f=>?_
 have:=h i b;simpa[List.getD,b,f] using this
theorem iU(w:LP)(a q:LM)(c y:Nat)(l b:List LK)(L:l.length<=1048576)(_hl':b.length<=1048576)(A:Strs w a l)(B:Strs w q b):
  Calls prog 90 #[.slice a l.length c,.slice q b.length y] w fun e w'=>e= .returned (.bool (decide (l=b)))/\K_ w w':=by
 go_enter func90,ntmps90
 by_cases h:l.length=b.length
 ·have C:((l.length:Int) == (b.length:Int))=true:=by simp[h]
  have D:(l.length:Int)= (b.length:Int):=by omega
  go_wp2
  go_loopw [5] (fun i wr=>∃k:Nat,k<=l.length/\i= .int .i64 k/\Hid (∀j,j<k->l.getD j ByteArray.empty=b.getD j ByteArray.empty)/\K_ w wr) (fun i _=>l.length-(intOf i).toNat)
  case atStart=>exact⟨0,JR _,rfl,Kz fun j m=>aT m,K_.refl _⟩
  case round=>
   obtain⟨k,M,rfl,r,d⟩:=hrel;by_cases E:k<l.length
   ·obtain⟨N,o,rfl,O,F⟩:=A.kept d k E;obtain⟨P,Q,rfl,R,G⟩:=B.kept d k (by omega);have S:(k:Int)<(l.length:Int):=by omega
    have T:(k:Int)<(b.length:Int):=by omega
    obtain⟨H,n⟩:=aj (l.getD k ByteArray.empty);obtain⟨I,p⟩:=aj (b.getD k ByteArray.empty);rw[<-n] at F;rw[<-p] at G;have⟨s,t⟩:=aH n p;clear n p;cases v:(H.toList == I.toList)
    ·go_upto_region 6 with fail
     go_quiet (fail)
     go_wp2
     go_ret
     have f:¬l=b:=fun e=>by
      have x:=jV v;rw[s.o,t.o,e] at x;exact x rfl
     exact⟨by rw[decide_eq_false f];rfl,d.drewN _⟩
    ·go_upto_region 6 with fail
     go_quiet (fail)
     go_wp2
     go_roundw
     case rel=>
      refine⟨k+1,by omega,by go_num,Kz fun j m=>?_,d.drewN _⟩;by_cases e:j=k
      ·rw[e,<-s.o,<-t.o];exact eF v
      ·exact r.o j (by omega)
     case measure=>simp[intOf];omega
   ·go_wp2
    go_ret
    have J:l=b:=pG h fun j m=>r.o j (by omega)
    exact⟨by rw[decide_eq_true J];rfl,d⟩
 ·have C:((l.length:Int) == (b.length:Int))=false:=by simp;omega
  have D:¬(l.length:Int)= (b.length:Int):=by omega
  have f:¬l=b:=fun e=>h (by rw[e])
  have K:=Kz f;clear f;go_wp2
  go_ret
  exact⟨by rw[decide_eq_false K.o];rfl,K_.refl _⟩
theorem Bc(w:LP)(r r':Qz)(xa xa':LM)(xc xc':Nat)(s:r.texts.length<=1048576)(t:r'.texts.length<=1048576)(v:Strs w xa r.texts)(x:Strs w xa' r'.texts):
  Calls prog 91 #[.agg #[.string r.name,.bool r.over,.bool r.fail,.string r.text,.int .i64 r.at',.int .i64 r.Zj,.slice xa r.texts.length xc],.agg #[.string r'.name,.bool r'.over,.bool r'.fail,.string r'.text,.int .i64 r'.at',.int .i64 r'.Zj,.slice xa' r'.texts.length xc']] w fun e w'=>(∃b,e= .returned (.bool b)/\(b=true↔r=r'))/\K_ w w':=by
 obtain⟨y,c,d,A,i,j,B⟩:=r;obtain⟨C,m,n,D,k,l,E⟩:=r';dsimp only at s t v x⊢;have a:K_ w ((w.alloc (.cells #[.string y,.bool c,.bool d,.string A,.int .i64 i,.int .i64 j,.slice xa B.length xc] 40)).alloc (.cells #[.string C,.bool m,.bool n,.string D,.int .i64 k,.int .i64 l,.slice xa' E.length xc'] 40)):=(ag _ _).alloc _;go_enter func91,ntmps91
 cases F:(y.toList == C.toList)
 ·go_wp2
  go_ret
  exact⟨⟨false,rfl,by simp[jV F]⟩,a⟩
 ·have H:=Kz (eF F);by_cases p:c=m
  ·subst p;have I:(c == c)=true:=by simp
   by_cases q:d=n
   ·subst q;have J:(d == d)=true:=by simp
    cases G:(A.toList == D.toList)
    ·go_wp2
     go_ret
     exact⟨⟨false,rfl,by simp[jV G]⟩,a⟩
    ·have K:=Kz (eF G);by_cases f:i=k
     ·have L:(i == k)=true:=by simp[f]
      have M:=Kz f;clear f;by_cases h:j=l
      ·have N:(j == l)=true:=by simp[h]
       have O:=Kz h;clear h;go_wp2_with (go_at_call 90;refine (iU _ xa xa' xc xc' B E s t (v.kept a) (x.kept a)).mono ?_;rintro e w1 ⟨rfl,P⟩)
       go_ret
       exact⟨⟨_,rfl,by simp[H.out,K.out,M.out,O.out]⟩,a.trans P⟩
      ·have N:(j == l)=false:=by simp[h]
       go_wp2
       go_ret
       exact⟨⟨false,rfl,by simp[h]⟩,a⟩
     ·have L:(i == k)=false:=by simp[f]
      go_wp2
      go_ret
      exact⟨⟨false,rfl,by simp[f]⟩,a⟩
   ·have J:(d == n)=false:=by simp[q]
    go_wp2
    go_ret
    exact⟨⟨false,rfl,by simp[q]⟩,a⟩
  ·have I:(c == m)=false:=by simp[p]
   go_wp2
   go_ret
   exact⟨⟨false,rfl,by simp[p]⟩,a⟩
theorem EA{l a:List Qz}(c:l.length=a.length)(h:∀j,j<l.length->l.getD j Qz.zero=a.getD j Qz.zero):l=a:=by
 refine List.ext_getElem c fun i b f=>?_
 have:=h i b;simpa[List.getD,b,f] using this
def IK(e:Ending)(p:Prop):Prop:=∃b,e= .returned (.bool b)/\(b=true↔p)
theorem Gc(w:LP)(n p d d':LM)(q B C dc':Nat)(Kk j:List LK)(l a:List Qz)(a1:Kk.length<=1048576)(a2:j.length<=1048576)(hl:l.length<=1048576)(_hl':a.length<=1048576)
  (ht:∀x∈l,x.texts.length<=1048576) (b1:∀x∈a,x.texts.length<=1048576) (hR:Strs w n Kk) (a3:Strs w p j) (hS:bD w d l) (b2:bD w d' a):
  Calls prog 51 #[.agg #[.slice n Kk.length q,.slice d l.length C],.agg #[.slice p j.length B,.slice d' a.length dc']] w fun e w'=>IK e (Kk=j/\l=a)/\K_ w w':=by
 obtain⟨W,E⟩:=aj ((w.alloc (.cells #[.slice n Kk.length q,.slice d l.length C] 29)).alloc (.cells #[.slice p j.length B,.slice d' a.length dc'] 29));have m:K_ w W:=by rw[E];exact (ag _ _).alloc _
 obtain⟨F,V⟩:=aj w.heap.size;obtain⟨G,X⟩:=aj (w.heap.size+1);have hA:W.rangeAt F 0 [.slice n Kk.length q,.slice d l.length C]:=by
  rw[E,V];exact K_.range (ag _ _) (by simp) (Xz w #[.slice n Kk.length q,.slice d l.length C] 29)
 have hB:W.rangeAt G 0 [.slice p j.length B,.slice d' a.length dc']:=by
  have:=Xz (w.alloc (.cells #[.slice n Kk.length q,.slice d l.length C] 29)) #[.slice p j.length B,.slice d' a.length dc'] 29;rw[KR] at this;rw[E,X];exact this
 have Y:F<W.heap.size:=by rw[E,V];simp;omega
 have Z:G<W.heap.size:=by rw[E,X];simp
 have Q:Hid (∀w',K_ W w'->(F<w'.heap.size/\G<w'.heap.size)/\w'.cell? ⟨F,0,none⟩=some (.slice n Kk.length q)/\w'.cell? ⟨F,1,none⟩=some (.slice d l.length C)/\w'.cell? ⟨G,0,none⟩=some (.slice p j.length B)/\w'.cell? ⟨G,1,none⟩=some (.slice d' a.length dc')):=fun w' N=>⟨⟨JQ Y N.size,JQ Z N.size⟩,(N.cell Y).trans (hA 0 _ rfl),(N.cell Y).trans (hA 1 _ rfl),(N.cell Z).trans (hB 0 _ rfl),(N.cell Z).trans (hB 1 _ rfl)⟩
 clear hA hB Y Z;go_enter func51,ntmps51
 go_upto_region 1 with fail
 rw[<-E,<-X,<-V];clear E V X;obtain⟨⟨r,s⟩,H,I,J,K⟩:=Q.o W (K_.refl _);by_cases R:Kk=j
 ·have a0:decide (Kk=j)=true:=decide_eq_true R;have Hr:=Kz R;clear R;by_cases S:l.length=a.length
  ·have b3:((l.length:Int) == (a.length:Int))=true:=by simp[S]
   have b4:((l.length:Int) != (a.length:Int))=false:=by simp[S]
   have a8:=Kz S;clear S;go_wp2_with (go_at_call 90;refine (iU _ n p q B Kk j a1 a2 (hR.kept m) (a3.kept m)).mono ?_;rintro e w1 ⟨rfl,D⟩;rw[a0];clear r s H I J K;obtain⟨⟨r,s⟩,H,I,J,K⟩:=Q.o w1 D)
   go_loopw [5] (fun i wr=>∃k:Nat,k<=l.length/\i= .int .i64 k/\Hid (∀t,t<k->l.getD t Qz.zero=a.getD t Qz.zero)/\K_ W wr) (fun i _=>l.length-(intOf i).toNat)
   case atStart=>exact⟨0,JR _,rfl,Kz fun t hj=>aT hj,D⟩
   case round=>
    obtain⟨k,hk,rfl,HG,O⟩:=hrel;clear r s H I J K;obtain⟨⟨r,s⟩,_,m1,_,m2⟩:=Q.o wr O;by_cases a4:k<l.length
    ·have a5:k<a.length:=by have:=a8.o;omega
     obtain⟨b,o,xa,ca,rfl,L,v,a6,_⟩:=hS.kept (m.trans O) k a4;obtain⟨c,f,xb,cb,rfl,M,A,a7,_⟩:=b2.kept (m.trans O) k a5;have a9:(l.getD k Qz.zero).texts.length<=1048576:=by simp only[List.getD,a4,JV,Lx];exact ht _ (J_ a4)
     have b0:(a.getD k Qz.zero).texts.length<=1048576:=by simp only[List.getD,a5,JV,Lx];exact b1 _ (J_ a5)
     have i0:(k:Int)<(l.length:Int):=by omega
     have i1:(k:Int)<(a.length:Int):=by omega
     obtain⟨x,hx⟩:=aj (l.getD k Qz.zero);obtain⟨y,hy⟩:=aj (a.getD k Qz.zero);rw[<-hx] at v a6 a9;rw[<-hy] at A a7 b0;have⟨HX,HY,b5,b6⟩:=lg hx hy a6 a7;have b7:Hid (∀w',K_ wr w'->(fun w'=>w'.cell? ⟨F,1,none⟩=some (.slice (some ⟨b,o,none⟩) l.length C)/\w'.cell? ⟨G,1,none⟩=some (.slice (some ⟨c,f,none⟩) a.length dc')/\w'.cell? ⟨b,o+k*7,none⟩=some (.string x.name)/\w'.cell? ⟨b,o+k*7+1,none⟩=some (.bool x.over)/\w'.cell? ⟨b,o+k*7+2,none⟩=some (.bool x.fail)/\w'.cell? ⟨b,o+k*7+3,none⟩=some (.string x.text)/\w'.cell? ⟨b,o+k*7+4,none⟩=some (.int .i64 x.at')/\w'.cell? ⟨b,o+k*7+5,none⟩=some (.int .i64 x.Zj)/\w'.cell? ⟨b,o+k*7+6,none⟩=some (.slice xa x.texts.length ca)/\w'.cell? ⟨c,f+k*7,none⟩=some (.string y.name)/\w'.cell? ⟨c,f+k*7+1,none⟩=some (.bool y.over)/\w'.cell? ⟨c,f+k*7+2,none⟩=some (.bool y.fail)/\w'.cell? ⟨c,f+k*7+3,none⟩=some (.string y.text)/\w'.cell? ⟨c,f+k*7+4,none⟩=some (.int .i64 y.at')/\w'.cell? ⟨c,f+k*7+5,none⟩=some (.int .i64 y.Zj)/\w'.cell? ⟨c,f+k*7+6,none⟩=some (.slice xb y.texts.length cb)) w'):=fun w' h=>⟨(h.cell r).trans m1,(h.cell s).trans m2,(h.cell L).trans (v 0 _ rfl),(h.cell L).trans (v 1 _ rfl),(h.cell L).trans (v 2 _ rfl),(h.cell L).trans (v 3 _ rfl),(h.cell L).trans (v 4 _ rfl),(h.cell L).trans (v 5 _ rfl),(h.cell L).trans (v 6 _ rfl),(h.cell M).trans (A 0 _ rfl),(h.cell M).trans (A 1 _ rfl),(h.cell M).trans (A 2 _ rfl),(h.cell M).trans (A 3 _ rfl),(h.cell M).trans (A 4 _ rfl),(h.cell M).trans (A 5 _ rfl),(h.cell M).trans (A 6 _ rfl)⟩
     clear v A hx hy a6 a7;go_upto_region 6 with fail
     go_cut [39] from 21 to 39 (fun b8 wx=>∃P,b8= .bool (!P)/\(P=true↔x=y)/\K_ wr wx)
     case first=>
      go_region_held (fun w'=>w'.cell? ⟨F,1,none⟩=some (.slice (some ⟨b,o,none⟩) l.length C)/\w'.cell? ⟨G,1,none⟩=some (.slice (some ⟨c,f,none⟩) a.length dc')/\w'.cell? ⟨b,o+k*7,none⟩=some (.string x.name)/\w'.cell? ⟨b,o+k*7+1,none⟩=some (.bool x.over)/\w'.cell? ⟨b,o+k*7+2,none⟩=some (.bool x.fail)/\w'.cell? ⟨b,o+k*7+3,none⟩=some (.string x.text)/\w'.cell? ⟨b,o+k*7+4,none⟩=some (.int .i64 x.at')/\w'.cell? ⟨b,o+k*7+5,none⟩=some (.int .i64 x.Zj)/\w'.cell? ⟨b,o+k*7+6,none⟩=some (.slice xa x.texts.length ca)/\w'.cell? ⟨c,f+k*7,none⟩=some (.string y.name)/\w'.cell? ⟨c,f+k*7+1,none⟩=some (.bool y.over)/\w'.cell? ⟨c,f+k*7+2,none⟩=some (.bool y.fail)/\w'.cell? ⟨c,f+k*7+3,none⟩=some (.string y.text)/\w'.cell? ⟨c,f+k*7+4,none⟩=some (.int .i64 y.at')/\w'.cell? ⟨c,f+k*7+5,none⟩=some (.int .i64 y.Zj)/\w'.cell? ⟨c,f+k*7+6,none⟩=some (.slice xb y.texts.length cb)) (exact a_ b7 _ (by repeat (first | (with_reducible exact K_.refl _) | (with_reducible assumption) | apply K_.drew))) ((go_at_call 91;refine (Bc _ x y xa xb ca cb a9 b0 (b5.o.kept (by repeat (first | (with_reducible exact K_.refl _) | (with_reducible assumption) | apply K_.drew))) (b6.o.kept (by repeat (first | (with_reducible exact K_.refl _) | (with_reducible assumption) | apply K_.drew)))).mono ?_;rintro e w1 ⟨⟨P,rfl,T⟩,b9⟩;have HQ:=Kz T;clear T;have kq:K_ wr w1:=K_.trans (by repeat (first | (with_reducible exact K_.refl _) | (with_reducible assumption) | apply K_.drew)) b9))
      all_goals
       go_wp2
       go_meet
       exact⟨P,rfl,HQ.o,kq⟩
     case rest=>
      obtain⟨P,rfl,T,kq⟩:=hcut;have HQ:=Kz T;clear T;obtain⟨wq,rfl⟩:=aj wc;cases P
      ·go_wp2
       go_ret
       refine⟨⟨false,rfl, ?_⟩,(m.trans O).trans kq⟩;constructor
       ·intro U;cases U
       ·rintro⟨_,e⟩;have:=HQ.o.2 (by rw[HX.o,HY.o,e]);cases this
      ·go_wp2
       go_roundw
       case rel=>
        refine⟨k+1,by omega,by go_num,Kz fun t hj=>?_,O.trans kq⟩;by_cases e:t=k
        ·rw[e,<-HX.o,<-HY.o];exact HQ.o.1 rfl
        ·exact HG.o t (by omega)
       case measure=>simp[intOf];omega
    ·go_wp2
     go_ret
     exact⟨⟨true,rfl,fun _=>⟨Hr.o,EA a8.o fun t hj=>HG.o t (by omega)⟩,fun _=>rfl⟩,m.trans O⟩
  ·have b3:((l.length:Int) == (a.length:Int))=false:=by simp;omega
   have b4:((l.length:Int) != (a.length:Int))=true:=by simp;omega
   go_wp2_with (go_at_call 90;refine (iU _ n p q B Kk j a1 a2 (hR.kept m) (a3.kept m)).mono ?_;rintro e w1 ⟨rfl,D⟩;rw[a0];clear r s H I J K;obtain⟨⟨r,s⟩,H,I,J,K⟩:=Q.o w1 D)
   go_ret
   exact⟨⟨false,rfl,(by constructor;(intro U;cases U);(rintro⟨_,e⟩;exact Lv (by rw[e]) S))⟩,m.trans D⟩
 ·have a0:decide (Kk=j)=false:=decide_eq_false R;go_wp2_with (go_at_call 90;refine (iU _ n p q B Kk j a1 a2 (hR.kept m) (a3.kept m)).mono ?_;rintro e w1 ⟨rfl,D⟩;rw[a0];clear r s H I J K;obtain⟨⟨r,s⟩,H,I,J,K⟩:=Q.o w1 D)
  go_ret
  exact⟨⟨false,rfl,(by constructor;(intro U;cases U);(rintro⟨e,_⟩;exact Lv e R))⟩,m.trans D⟩
