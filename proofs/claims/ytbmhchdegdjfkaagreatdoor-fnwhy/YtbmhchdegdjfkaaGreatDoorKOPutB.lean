import Derived.Test.YtbmhchdegdjfkaaGreatDoorKVAppr
import Derived.Deep.RegionLaw
set_option maxRecDepth 100000
set_option maxHeartbeats 25600000
namespace Go.Proofs.YtbmhchdegdjfkaaGreatDoor
open Go.RowKit Go.Proofs.Tryz
theorem oH{l a:List KC}(c:l.length=a.length)(h:∀j,j<l.length->l.getD j ByteArray.empty=a.getD j ByteArray.empty):l=a:=by
 refine List.ext_getElem c fun i b f=>?_
 have:=h i b;simpa[List.getD,b,f] using this
theorem iM(w:KH)(a q:KG)(c y:Nat)(l b:List KC)(L:l.length<=1048576)(_hl':b.length<=1048576)(A:Strs w a l)(B:Strs w q b):
  Calls prog 90 #[.slice a l.length c,.slice q b.length y] w fun e w'=>e= .returned (.bool (decide (l=b)))/\K_ w w':=by
 go_enter func90,ntmps90
 by_cases h:l.length=b.length
 ·have C:((l.length:Int) == (b.length:Int))=true:=by simp[h]
  have D:(l.length:Int)= (b.length:Int):=by omega
  go_wp2
  go_loopw [5] (fun i wr=>∃k:Nat,k<=l.length/\i= .int .i64 k/\Hid (∀j,j<k->l.getD j ByteArray.empty=b.getD j ByteArray.empty)/\K_ w wr) (fun i _=>l.length-(intOf i).toNat)
  case atStart=>exact⟨0,Ja _,rfl,Kz fun j m=>aP m,K_.refl _⟩
  case round=>
   obtain⟨k,M,rfl,r,d⟩:=hrel;by_cases E:k<l.length
   ·obtain⟨N,o,rfl,O,F⟩:=A.kept d k E;obtain⟨P,Q,rfl,R,G⟩:=B.kept d k (by omega);have S:(k:Int)<(l.length:Int):=by omega
    have T:(k:Int)<(b.length:Int):=by omega
    obtain⟨H,n⟩:=ah (l.getD k ByteArray.empty);obtain⟨I,p⟩:=ah (b.getD k ByteArray.empty);rw[<-n] at F;rw[<-p] at G;have⟨s,t⟩:=aD n p;clear n p;cases v:(H.toList == I.toList)
    ·go_upto_region 6 with fail
     go_quiet (fail)
     go_wp2
     go_ret
     have f:¬l=b:=fun e=>by
      have x:=kZ v;rw[s.o,t.o,e] at x;exact x rfl
     exact⟨by rw[decide_eq_false f];rfl,d.drewN _⟩
    ·go_upto_region 6 with fail
     go_quiet (fail)
     go_wp2
     go_roundw
     case rel=>
      refine⟨k+1,by omega,by go_num,Kz fun j m=>?_,d.drewN _⟩;by_cases e:j=k
      ·rw[e,<-s.o,<-t.o];exact fu v
      ·exact r.o j (by omega)
     case measure=>simp[intOf];omega
   ·go_wp2
    go_ret
    have J:l=b:=oH h fun j m=>r.o j (by omega)
    exact⟨by rw[decide_eq_true J];rfl,d⟩
 ·have C:((l.length:Int) == (b.length:Int))=false:=by simp;omega
  have D:¬(l.length:Int)= (b.length:Int):=by omega
  have f:¬l=b:=fun e=>h (by rw[e])
  have K:=Kz f;clear f;go_wp2
  go_ret
  exact⟨by rw[decide_eq_false K.o];rfl,K_.refl _⟩
theorem Ah(w:KH)(r r':Q_)(xa xa':KG)(xc xc':Nat)(s:r.texts.length<=1048576)(t:r'.texts.length<=1048576)(v:Strs w xa r.texts)(x:Strs w xa' r'.texts):
  Calls prog 91 #[.agg #[.string r.name,.bool r.over,.bool r.fail,.string r.text,.int .i64 r.at',.int .i64 r.Zq,.slice xa r.texts.length xc],.agg #[.string r'.name,.bool r'.over,.bool r'.fail,.string r'.text,.int .i64 r'.at',.int .i64 r'.Zq,.slice xa' r'.texts.length xc']] w fun e w'=>(∃b,e= .returned (.bool b)/\(b=true↔r=r'))/\K_ w w':=by
 obtain⟨y,c,d,A,i,j,B⟩:=r;obtain⟨C,m,n,D,k,l,E⟩:=r';dsimp only at s t v x⊢;have a:K_ w ((w.alloc (.cells #[.string y,.bool c,.bool d,.string A,.int .i64 i,.int .i64 j,.slice xa B.length xc] 40)).alloc (.cells #[.string C,.bool m,.bool n,.string D,.int .i64 k,.int .i64 l,.slice xa' E.length xc'] 40)):=(ag _ _).alloc _;go_enter func91,ntmps91
 cases F:(y.toList == C.toList)
 ·go_wp2
  go_ret
  exact⟨⟨false,rfl,by simp[kZ F]⟩,a⟩
 ·have H:=Kz (fu F);by_cases p:c=m
  ·subst p;have I:(c == c)=true:=by simp
   by_cases q:d=n
   ·subst q;have J:(d == d)=true:=by simp
    cases G:(A.toList == D.toList)
    ·go_wp2
     go_ret
     exact⟨⟨false,rfl,by simp[kZ G]⟩,a⟩
    ·have K:=Kz (fu G);by_cases f:i=k
     ·have L:(i == k)=true:=by simp[f]
      have M:=Kz f;clear f;by_cases h:j=l
      ·have N:(j == l)=true:=by simp[h]
       have O:=Kz h;clear h;go_wp2_with (go_at_call 90;refine (iM _ xa xa' xc xc' B E s t (v.kept a) (x.kept a)).mono ?_;rintro e w1 ⟨rfl,P⟩)
       go_ret
       exact⟨⟨_,rfl,by simp[H.out,K.out,M.out,O.out]⟩,a.trans P⟩
      ·have N:(j == l)=false:=by simp[h]
       go_wp2
       go_ret
       exact⟨⟨false,rfl,by simp[h]⟩,a⟩
     ·have L:(i == k)=false:=by simp[f]
      go_wp2
      go_ret
      exact⟨⟨false,rfl,by simp[f]⟩,a⟩
   ·have J:(d == n)=false:=by simp[q]
    go_wp2
    go_ret
    exact⟨⟨false,rfl,by simp[q]⟩,a⟩
  ·have I:(c == m)=false:=by simp[p]
   go_wp2
   go_ret
   exact⟨⟨false,rfl,by simp[p]⟩,a⟩
theorem DK{l a:List Q_}(c:l.length=a.length)(h:∀j,j<l.length->l.getD j Q_.zero=a.getD j Q_.zero):l=a:=by
 refine List.ext_getElem c fun i b f=>?_
 have:=h i b;simpa[List.getD,b,f] using this
def GZ(e:Ending)(p:Prop):Prop:=∃b,e= .returned (.bool b)/\(b=true↔p)
theorem EZ(w:KH)(n p d d':KG)(q B C dc':Nat)(Kj j:List KC)(l a:List Q_)(a1:Kj.length<=1048576)(a2:j.length<=1048576)(hl:l.length<=1048576)(_hl':a.length<=1048576)
  (ht:∀x∈l,x.texts.length<=1048576) (b1:∀x∈a,x.texts.length<=1048576) (hR:Strs w n Kj) (a3:Strs w p j) (hS:bK w d l) (b2:bK w d' a):
  Calls prog 51 #[.agg #[.slice n Kj.length q,.slice d l.length C],.agg #[.slice p j.length B,.slice d' a.length dc']] w fun e w'=>GZ e (Kj=j/\l=a)/\K_ w w':=by
 obtain⟨W,E⟩:=ah ((w.alloc (.cells #[.slice n Kj.length q,.slice d l.length C] 29)).alloc (.cells #[.slice p j.length B,.slice d' a.length dc'] 29));have m:K_ w W:=by rw[E];exact (ag _ _).alloc _
 obtain⟨F,V⟩:=ah w.heap.size;obtain⟨G,X⟩:=ah (w.heap.size+1);have hA:W.rangeAt F 0 [.slice n Kj.length q,.slice d l.length C]:=by
  rw[E,V];exact K_.range (ag _ _) (by simp) (X_ w #[.slice n Kj.length q,.slice d l.length C] 29)
 have hB:W.rangeAt G 0 [.slice p j.length B,.slice d' a.length dc']:=by
  have:=X_ (w.alloc (.cells #[.slice n Kj.length q,.slice d l.length C] 29)) #[.slice p j.length B,.slice d' a.length dc'] 29;rw[JG] at this;rw[E,X];exact this
 have Y:F<W.heap.size:=by rw[E,V];simp;omega
 have Z:G<W.heap.size:=by rw[E,X];simp
 have Q:Hid (∀w',K_ W w'->(F<w'.heap.size/\G<w'.heap.size)/\w'.cell? ⟨F,0,none⟩=some (.slice n Kj.length q)/\w'.cell? ⟨F,1,none⟩=some (.slice d l.length C)/\w'.cell? ⟨G,0,none⟩=some (.slice p j.length B)/\w'.cell? ⟨G,1,none⟩=some (.slice d' a.length dc')):=fun w' N=>⟨⟨I_ Y N.size,I_ Z N.size⟩,(N.cell Y).trans (hA 0 _ rfl),(N.cell Y).trans (hA 1 _ rfl),(N.cell Z).trans (hB 0 _ rfl),(N.cell Z).trans (hB 1 _ rfl)⟩
 clear hA hB Y Z;go_enter func51,ntmps51
 go_upto_region 1 with fail
 rw[<-E,<-X,<-V];clear E V X;obtain⟨⟨r,s⟩,H,I,J,K⟩:=Q.o W (K_.refl _);by_cases R:Kj=j
 ·have a0:decide (Kj=j)=true:=decide_eq_true R;have Hr:=Kz R;clear R;by_cases S:l.length=a.length
  ·have b3:((l.length:Int) == (a.length:Int))=true:=by simp[S]
   have b4:((l.length:Int) != (a.length:Int))=false:=by simp[S]
   have a8:=Kz S;clear S;go_wp2_with (go_at_call 90;refine (iM _ n p q B Kj j a1 a2 (hR.kept m) (a3.kept m)).mono ?_;rintro e w1 ⟨rfl,D⟩;rw[a0];clear r s H I J K;obtain⟨⟨r,s⟩,H,I,J,K⟩:=Q.o w1 D)
   go_loopw [5] (fun i wr=>∃k:Nat,k<=l.length/\i= .int .i64 k/\Hid (∀t,t<k->l.getD t Q_.zero=a.getD t Q_.zero)/\K_ W wr) (fun i _=>l.length-(intOf i).toNat)
   case atStart=>exact⟨0,Ja _,rfl,Kz fun t hj=>aP hj,D⟩
   case round=>
    obtain⟨k,hk,rfl,HG,O⟩:=hrel;clear r s H I J K;obtain⟨⟨r,s⟩,_,m1,_,m2⟩:=Q.o wr O;by_cases a4:k<l.length
    ·have a5:k<a.length:=by have:=a8.o;omega
     obtain⟨b,o,xa,ca,rfl,L,v,a6,_⟩:=hS.kept (m.trans O) k a4;obtain⟨c,f,xb,cb,rfl,M,A,a7,_⟩:=b2.kept (m.trans O) k a5;have a9:(l.getD k Q_.zero).texts.length<=1048576:=by simp only[List.getD,a4,Jd,Kl];exact ht _ (Ji a4)
     have b0:(a.getD k Q_.zero).texts.length<=1048576:=by simp only[List.getD,a5,Jd,Kl];exact b1 _ (Ji a5)
     have i0:(k:Int)<(l.length:Int):=by omega
     have i1:(k:Int)<(a.length:Int):=by omega
     obtain⟨x,hx⟩:=ah (l.getD k Q_.zero);obtain⟨y,hy⟩:=ah (a.getD k Q_.zero);rw[<-hx] at v a6 a9;rw[<-hy] at A a7 b0;have⟨HX,HY,b5,b6⟩:=jh hx hy a6 a7;have b7:Hid (∀w',K_ wr w'->(fun w'=>w'.cell? ⟨F,1,none⟩=some (.slice (some ⟨b,o,none⟩) l.length C)/\w'.cell? ⟨G,1,none⟩=some (.slice (some ⟨c,f,none⟩) a.length dc')/\w'.cell? ⟨b,o+k*7,none⟩=some (.string x.name)/\w'.cell? ⟨b,o+k*7+1,none⟩=some (.bool x.over)/\w'.cell? ⟨b,o+k*7+2,none⟩=some (.bool x.fail)/\w'.cell? ⟨b,o+k*7+3,none⟩=some (.string x.text)/\w'.cell? ⟨b,o+k*7+4,none⟩=some (.int .i64 x.at')/\w'.cell? ⟨b,o+k*7+5,none⟩=some (.int .i64 x.Zq)/\w'.cell? ⟨b,o+k*7+6,none⟩=some (.slice xa x.texts.length ca)/\w'.cell? ⟨c,f+k*7,none⟩=some (.string y.name)/\w'.cell? ⟨c,f+k*7+1,none⟩=some (.bool y.over)/\w'.cell? ⟨c,f+k*7+2,none⟩=some (.bool y.fail)/\w'.cell? ⟨c,f+k*7+3,none⟩=some (.string y.text)/\w'.cell? ⟨c,f+k*7+4,none⟩=some (.int .i64 y.at')/\w'.cell? ⟨c,f+k*7+5,none⟩=some (.int .i64 y.Zq)/\w'.cell? ⟨c,f+k*7+6,none⟩=some (.slice xb y.texts.length cb)) w'):=fun w' h=>⟨(h.cell r).trans m1,(h.cell s).trans m2,(h.cell L).trans (v 0 _ rfl),(h.cell L).trans (v 1 _ rfl),(h.cell L).trans (v 2 _ rfl),(h.cell L).trans (v 3 _ rfl),(h.cell L).trans (v 4 _ rfl),(h.cell L).trans (v 5 _ rfl),(h.cell L).trans (v 6 _ rfl),(h.cell M).trans (A 0 _ rfl),(h.cell M).trans (A 1 _ rfl),(h.cell M).trans (A 2 _ rfl),(h.cell M).trans (A 3 _ rfl),(h.cell M).trans (A 4 _ rfl),(h.cell M).trans (A 5 _ rfl),(h.cell M).trans (A 6 _ rfl)⟩
     clear v A hx hy a6 a7;go_upto_region 6 with fail
     go_cut [39] from 21 to 39 (fun b8 wx=>∃P,b8= .bool (!P)/\(P=true↔x=y)/\K_ wr wx)
     case first=>
      go_region_held (fun w'=>w'.cell? ⟨F,1,none⟩=some (.slice (some ⟨b,o,none⟩) l.length C)/\w'.cell? ⟨G,1,none⟩=some (.slice (some ⟨c,f,none⟩) a.length dc')/\w'.cell? ⟨b,o+k*7,none⟩=some (.string x.name)/\w'.cell? ⟨b,o+k*7+1,none⟩=some (.bool x.over)/\w'.cell? ⟨b,o+k*7+2,none⟩=some (.bool x.fail)/\w'.cell? ⟨b,o+k*7+3,none⟩=some (.string x.text)/\w'.cell? ⟨b,o+k*7+4,none⟩=some (.int .i64 x.at')/\w'.cell? ⟨b,o+k*7+5,none⟩=some (.int .i64 x.Zq)/\w'.cell? ⟨b,o+k*7+6,none⟩=some (.slice xa x.texts.length ca)/\w'.cell? ⟨c,f+k*7,none⟩=some (.string y.name)/\w'.cell? ⟨c,f+k*7+1,none⟩=some (.bool y.over)/\w'.cell? ⟨c,f+k*7+2,none⟩=some (.bool y.fail)/\w'.cell? ⟨c,f+k*7+3,none⟩=some (.string y.text)/\w'.cell? ⟨c,f+k*7+4,none⟩=some (.int .i64 y.at')/\w'.cell? ⟨c,f+k*7+5,none⟩=some (.int .i64 y.Zq)/\w'.cell? ⟨c,f+k*7+6,none⟩=some (.slice xb y.texts.length cb)) (exact aW b7 _ (by repeat (first | (with_reducible exact K_.refl _) | (with_reducible assumption) | apply K_.drew))) ((go_at_call 91;refine (Ah _ x y xa xb ca cb a9 b0 (b5.o.kept (by repeat (first | (with_reducible exact K_.refl _) | (with_reducible assumption) | apply K_.drew))) (b6.o.kept (by repeat (first | (with_reducible exact K_.refl _) | (with_reducible assumption) | apply K_.drew)))).mono ?_;rintro e w1 ⟨⟨P,rfl,T⟩,b9⟩;have HQ:=Kz T;clear T;have kq:K_ wr w1:=K_.trans (by repeat (first | (with_reducible exact K_.refl _) | (with_reducible assumption) | apply K_.drew)) b9))
      all_goals
       go_wp2
       go_meet
       exact⟨P,rfl,HQ.o,kq⟩
     case rest=>
      obtain⟨P,rfl,T,kq⟩:=hcut;have HQ:=Kz T;clear T;obtain⟨wq,rfl⟩:=ah wc;cases P
      ·go_wp2
       go_ret
       refine⟨⟨false,rfl, ?_⟩,(m.trans O).trans kq⟩;constructor
       ·intro U;cases U
       ·rintro⟨_,e⟩;have:=HQ.o.2 (by rw[HX.o,HY.o,e]);cases this
      ·go_wp2
       go_roundw
       case rel=>
        refine⟨k+1,by omega,by go_num,Kz fun t hj=>?_,O.trans kq⟩;by_cases e:t=k
        ·rw[e,<-HX.o,<-HY.o];exact HQ.o.1 rfl
        ·exact HG.o t (by omega)
       case measure=>simp[intOf];omega
    ·go_wp2
     go_ret
     exact⟨⟨true,rfl,fun _=>⟨Hr.o,DK a8.o fun t hj=>HG.o t (by omega)⟩,fun _=>rfl⟩,m.trans O⟩
  ·have b3:((l.length:Int) == (a.length:Int))=false:=by simp;omega
   have b4:((l.length:Int) != (a.length:Int))=true:=by simp;omega
   go_wp2_with (go_at_call 90;refine (iM _ n p q B Kj j a1 a2 (hR.kept m) (a3.kept m)).mono ?_;rintro e w1 ⟨rfl,D⟩;rw[a0];clear r s H I J K;obtain⟨⟨r,s⟩,H,I,J,K⟩:=Q.o w1 D)
   go_ret
   exact⟨⟨false,rfl,(by constructor;(intro U;cases U);(rintro⟨_,e⟩;exact Ki (by rw[e]) S))⟩,m.trans D⟩
 ·have a0:decide (Kj=j)=false:=decide_eq_false R;go_wp2_with (go_at_call 90;refine (iM _ n p q B Kj j a1 a2 (hR.kept m) (a3.kept m)).mono ?_;rintro e w1 ⟨rfl,D⟩;rw[a0];clear r s H I J K;obtain⟨⟨r,s⟩,H,I,J,K⟩:=Q.o w1 D)
  go_ret
  exact⟨⟨false,rfl,(by constructor;(intro U;cases U);(rintro⟨e,_⟩;exact Ki e R))⟩,m.trans D⟩
theorem Dx{w a:KH}{x y z:KI}{t:TypeId}(K:K_ (w.alloc (.cells #[x,y,z] t)) a):a.cell? ⟨w.heap.size,0,none⟩=some x/\a.cell? ⟨w.heap.size,1,none⟩=some y/\a.cell? ⟨w.heap.size,2,none⟩=some z:=by
 refine⟨?_, ?_, ?_⟩
 ·rw[K.cell (by simp)];simp
 ·rw[K.cell (by simp)];simp
 ·rw[K.cell (by simp)];simp
theorem K_.un{X w':KH}(k:K_ X.drew w'):K_ X w':=K_.trans (aG _) k
theorem yN{X w':KH}{c:Array KI}{t:TypeId}(k:K_ (X.alloc (.cells c t)) w'):au w' X.heap.size t c.size:=(au.made X c t).kept k
theorem yU{X w':KH}{c:Array KI}{t:TypeId}(k:K_ (X.alloc (.cells c t)).drew w'):au w' X.heap.size t c.size:=yN k.un
