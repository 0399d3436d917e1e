import Derived.Test.YtbmhchdegdjfkaaGreatDoorKBBehind
set_option maxRecDepth 100000
set_option maxHeartbeats 25600000
namespace Go.Proofs.YtbmhchdegdjfkaaGreatDoor
open Go.RowKit Go.Proofs.Tryz
theorem sO(w:KH)(a r:KG)(c B:Nat)(l b:List KC)(M:l.length<=1048576)(_hl':b.length<=1048576)(C:Strs w a l)(D:Strs w r b):
  Calls prog 107 #[.slice a l.length c,.slice r b.length B] w fun e w'=>e= .returned (.bool (decide (l=b)))/\K_ w w':=by
 go_enter func107,ntmps107
 by_cases i:l.length=b.length
 ·have E:((l.length:Int) != (b.length:Int))=false:=by simp[i]
  have F:(l.length:Int)= (b.length:Int):=by omega
  go_wp2
  go_loopw [13] (fun m wr=>∃k:Nat,k<=l.length/\m= .int .i64 k/\Hid (∀j,j<k->l.getD j ByteArray.empty=b.getD j ByteArray.empty)/\K_ w wr) (fun m _=>l.length-(intOf m).toNat)
  case atStart=>exact⟨0,Ja _,rfl,Kz fun j n=>aP n,K_.refl _⟩
  case round=>
   obtain⟨k,N,rfl,s,d⟩:=hrel;by_cases G:k<l.length
   ·obtain⟨O,o,rfl,P,H⟩:=C.kept d k G;obtain⟨Q,R,rfl,S,I⟩:=D.kept d k (by omega);have T:(k:Int)<(l.length:Int):=by omega
    have U:(k:Int)<(b.length:Int):=by omega
    obtain⟨x,p⟩:=ah (l.getD k ByteArray.empty);obtain⟨y,q⟩:=ah (b.getD k ByteArray.empty);rw[<-p] at H;rw[<-q] at I;have⟨t,v⟩:=aD p q;clear p q;cases f:(x.toList == y.toList)
    ·have J:(x.toList != y.toList)=true:=by rw[bne,f];rfl
     go_upto_region 6 with fail
     go_quiet (fail)
     go_wp2
     go_ret
     have h:¬l=b:=fun e=>by
      have A:=kZ f;rw[t.o,v.o,e] at A;exact A rfl
     exact⟨by rw[decide_eq_false h];rfl,d.drewN _⟩
    ·have J:(x.toList != y.toList)=false:=by rw[bne,f];rfl
     go_upto_region 6 with fail
     go_quiet (fail)
     go_wp2
     go_roundw
     case rel=>
      refine⟨k+1,by omega,by go_num,Kz fun j n=>?_,d.drewN _⟩;by_cases e:j=k
      ·rw[e,<-t.o,<-v.o];exact fu f
      ·exact s.o j (by omega)
     case measure=>simp[intOf];omega
   ·go_wp2
    go_ret
    have K:l=b:=oH i fun j n=>s.o j (by omega)
    exact⟨by rw[decide_eq_true K];rfl,d⟩
 ·have E:((l.length:Int) != (b.length:Int))=true:=by simp;omega
  have F:¬(l.length:Int)= (b.length:Int):=by omega
  have h:¬l=b:=fun e=>i (by rw[e])
  have L:=Kz h;clear h;go_wp2
  go_ret
  exact⟨by rw[decide_eq_false L.o];rfl,K_.refl _⟩
theorem xK(w:KH)(tb:Nat)(r r':Q_)(y xa:KG)(I xc:Nat)(J:tb<w.heap.size)(A:w.rangeAt tb 0 (r.cells y I))(hl:r.texts.length<=1048576)(a0:r'.texts.length<=1048576)(S:Strs w y r.texts)(T:Strs w xa r'.texts):
  Calls prog 62 #[.pointer (some ⟨tb,0,none⟩),.agg #[.string r'.name,.bool r'.over,.bool r'.fail,.string r'.text,.int .i64 r'.at',.int .i64 r'.Zq,.slice xa r'.texts.length xc]] w
   fun e w'=>Says e (r=r')/\K_ w w':=by
 obtain⟨L,B,C,M,D,E,N⟩:=r;obtain⟨i,b,c,j,d,f,k⟩:=r';dsimp only at hl a0 S T⊢;have q:K_ w (w.alloc (.cells #[.string i,.bool b,.bool c,.string j,.int .i64 d,.int .i64 f,.slice xa k.length xc] 40)):=ag _ _;have a6:¬tb=w.heap.size:=by omega
 have s:tb<(w.alloc (.cells #[.string i,.bool b,.bool c,.string j,.int .i64 d,.int .i64 f,.slice xa k.length xc] 40)).heap.size:=by simp;omega
 have t:w.heap.size<(w.alloc (.cells #[.string i,.bool b,.bool c,.string j,.int .i64 d,.int .i64 f,.slice xa k.length xc] 40)).heap.size:=by simp
 have c0:(w.alloc (.cells #[.string i,.bool b,.bool c,.string j,.int .i64 d,.int .i64 f,.slice xa k.length xc] 40)).cell? ⟨tb,0,none⟩=some (.string L):=(q.cell J).trans (by have h:=A 0 _ rfl;simpa using h);have d0:(w.alloc (.cells #[.string i,.bool b,.bool c,.string j,.int .i64 d,.int .i64 f,.slice xa k.length xc] 40)).cell? ⟨w.heap.size,0,none⟩=some (.string i):=X_ w #[.string i,.bool b,.bool c,.string j,.int .i64 d,.int .i64 f,.slice xa k.length xc] 40 0 _ rfl;have c1:(w.alloc (.cells #[.string i,.bool b,.bool c,.string j,.int .i64 d,.int .i64 f,.slice xa k.length xc] 40)).cell? ⟨tb,1,none⟩=some (.bool B):=(q.cell J).trans (by have h:=A 1 _ rfl;simpa using h);have d1:(w.alloc (.cells #[.string i,.bool b,.bool c,.string j,.int .i64 d,.int .i64 f,.slice xa k.length xc] 40)).cell? ⟨w.heap.size,1,none⟩=some (.bool b):=X_ w #[.string i,.bool b,.bool c,.string j,.int .i64 d,.int .i64 f,.slice xa k.length xc] 40 1 _ rfl;have c2:(w.alloc (.cells #[.string i,.bool b,.bool c,.string j,.int .i64 d,.int .i64 f,.slice xa k.length xc] 40)).cell? ⟨tb,2,none⟩=some (.bool C):=(q.cell J).trans (by have h:=A 2 _ rfl;simpa using h);have d2:(w.alloc (.cells #[.string i,.bool b,.bool c,.string j,.int .i64 d,.int .i64 f,.slice xa k.length xc] 40)).cell? ⟨w.heap.size,2,none⟩=some (.bool c):=X_ w #[.string i,.bool b,.bool c,.string j,.int .i64 d,.int .i64 f,.slice xa k.length xc] 40 2 _ rfl;have c3:(w.alloc (.cells #[.string i,.bool b,.bool c,.string j,.int .i64 d,.int .i64 f,.slice xa k.length xc] 40)).cell? ⟨tb,3,none⟩=some (.string M):=(q.cell J).trans (by have h:=A 3 _ rfl;simpa using h);have d3:(w.alloc (.cells #[.string i,.bool b,.bool c,.string j,.int .i64 d,.int .i64 f,.slice xa k.length xc] 40)).cell? ⟨w.heap.size,3,none⟩=some (.string j):=X_ w #[.string i,.bool b,.bool c,.string j,.int .i64 d,.int .i64 f,.slice xa k.length xc] 40 3 _ rfl;have c4:(w.alloc (.cells #[.string i,.bool b,.bool c,.string j,.int .i64 d,.int .i64 f,.slice xa k.length xc] 40)).cell? ⟨tb,4,none⟩=some (.int .i64 D):=(q.cell J).trans (by have h:=A 4 _ rfl;simpa using h);have d4:(w.alloc (.cells #[.string i,.bool b,.bool c,.string j,.int .i64 d,.int .i64 f,.slice xa k.length xc] 40)).cell? ⟨w.heap.size,4,none⟩=some (.int .i64 d):=X_ w #[.string i,.bool b,.bool c,.string j,.int .i64 d,.int .i64 f,.slice xa k.length xc] 40 4 _ rfl;have c5:(w.alloc (.cells #[.string i,.bool b,.bool c,.string j,.int .i64 d,.int .i64 f,.slice xa k.length xc] 40)).cell? ⟨tb,5,none⟩=some (.int .i64 E):=(q.cell J).trans (by have h:=A 5 _ rfl;simpa using h);have d5:(w.alloc (.cells #[.string i,.bool b,.bool c,.string j,.int .i64 d,.int .i64 f,.slice xa k.length xc] 40)).cell? ⟨w.heap.size,5,none⟩=some (.int .i64 f):=X_ w #[.string i,.bool b,.bool c,.string j,.int .i64 d,.int .i64 f,.slice xa k.length xc] 40 5 _ rfl;have c6:(w.alloc (.cells #[.string i,.bool b,.bool c,.string j,.int .i64 d,.int .i64 f,.slice xa k.length xc] 40)).cell? ⟨tb,6,none⟩=some (.slice y N.length I):=(q.cell J).trans (by have h:=A 6 _ rfl;simpa using h);have d6:(w.alloc (.cells #[.string i,.bool b,.bool c,.string j,.int .i64 d,.int .i64 f,.slice xa k.length xc] 40)).cell? ⟨w.heap.size,6,none⟩=some (.slice xa k.length xc):=X_ w #[.string i,.bool b,.bool c,.string j,.int .i64 d,.int .i64 f,.slice xa k.length xc] 40 6 _ rfl;clear A;go_enter func62,ntmps62
 go_upto_region 1 with fail
 generalize hW:(w.alloc (.cells #[.string i,.bool b,.bool c,.string j,.int .i64 d,.int .i64 f,.slice xa k.length xc] 40))=a4 at *;clear hW;go_cut [5] from 7 to 34 (fun s5 U=>K_ a4 U/\s5= .bool (decide (B=b/\C=c/\M=j)))
 case first=>
  by_cases m:B=b
  ·have V:(B == b)=true:=by simp[m]
   by_cases p:C=c
   ·have W:(C == c)=true:=by simp[p]
    have⟨F,K⟩:=aD m p;clear m p;cases h3:(M.toList == j.toList)
    ·go_region
     all_goals
      go_wp2
      go_meet
      exact⟨(aG _),by rw[decide_eq_false (fun h=>kZ h3 (by rw[h.2.2]))]⟩
    ·go_region
     all_goals
      go_wp2
      go_meet
      exact⟨(aG _),by rw[decide_eq_true ⟨F.o,K.o,fu h3⟩]⟩
   ·have W:(C == c)=false:=by simp[p]
    have⟨F,K⟩:=aD m p;clear m p;go_region
    all_goals
     go_wp2
     go_meet
     exact⟨(aG _),by rw[decide_eq_false (fun h=>K.o h.2.1)]⟩
  ·have V:(B == b)=false:=by simp[m]
   have F:=Kz m;clear m;go_region
   all_goals
    go_wp2
    go_meet
    exact⟨(aG _),by rw[decide_eq_false (fun h=>F.o h.1)]⟩
 case rest=>
  obtain⟨a,rfl⟩:=hcut;generalize hE:decide (B=b/\C=c/\M=j)=sE;have HE:=Kz hE;clear hE;obtain⟨n,rfl⟩:=ah wc;have t0:n.cell? ⟨tb,0,none⟩=some (.string L):=(a.cell s).trans c0;have x0:n.cell? ⟨w.heap.size,0,none⟩=some (.string i):=(a.cell t).trans d0;have t1:n.cell? ⟨tb,1,none⟩=some (.bool B):=(a.cell s).trans c1;have x1:n.cell? ⟨w.heap.size,1,none⟩=some (.bool b):=(a.cell t).trans d1;have t2:n.cell? ⟨tb,2,none⟩=some (.bool C):=(a.cell s).trans c2;have x2:n.cell? ⟨w.heap.size,2,none⟩=some (.bool c):=(a.cell t).trans d2;have t3:n.cell? ⟨tb,3,none⟩=some (.string M):=(a.cell s).trans c3;have x3:n.cell? ⟨w.heap.size,3,none⟩=some (.string j):=(a.cell t).trans d3;have t4:n.cell? ⟨tb,4,none⟩=some (.int .i64 D):=(a.cell s).trans c4;have x4:n.cell? ⟨w.heap.size,4,none⟩=some (.int .i64 d):=(a.cell t).trans d4;have t5:n.cell? ⟨tb,5,none⟩=some (.int .i64 E):=(a.cell s).trans c5;have x5:n.cell? ⟨w.heap.size,5,none⟩=some (.int .i64 f):=(a.cell t).trans d5;have t6:n.cell? ⟨tb,6,none⟩=some (.slice y N.length I):=(a.cell s).trans c6;have x6:n.cell? ⟨w.heap.size,6,none⟩=some (.slice xa k.length xc):=(a.cell t).trans d6;clear c0 c1 c2 c3 c4 c5 c6 d0 d1 d2 d3 d4 d5 d6;have K1:=q.trans a;have v:tb<n.heap.size:=I_ s a.size;have x:w.heap.size<n.heap.size:=I_ t a.size;clear a s t q;go_upto_region 2 with fail
  go_cut [6] from 35 to 52 (fun s6 U=>K_ n U/\s6= .bool (decide (D=d/\E=f)))
  case first=>
   by_cases m:D=d
   ·have V:(D == d)=true:=by simp[m]
    have F:=Kz m;clear m;by_cases p:E=f
    ·have W:(E == f)=true:=by simp[p]
     have K:=Kz p;clear p;go_region
     all_goals
      go_wp2
      go_meet
      exact⟨(aG _),by rw[decide_eq_true ⟨F.o,K.o⟩]⟩
    ·have W:(E == f)=false:=by simp[p]
     have K:=Kz p;clear p;go_region
     all_goals
      go_wp2
      go_meet
      exact⟨(aG _),by rw[decide_eq_false (fun h=>K.o h.2)]⟩
   ·have V:(D == d)=false:=by simp[m]
    have F:=Kz m;clear m;go_region
    all_goals
     go_wp2
     go_meet
     exact⟨(aG _),by rw[decide_eq_false (fun h=>F.o h.1)]⟩
  case rest=>
   obtain⟨a,rfl⟩:=hcut;obtain⟨l,rfl⟩:=ah wc;generalize hP:decide (D=d/\E=f)=sP;have HP:=Kz hP;clear hP;have u0:l.cell? ⟨tb,0,none⟩=some (.string L):=(a.cell v).trans t0;have y0:l.cell? ⟨w.heap.size,0,none⟩=some (.string i):=(a.cell x).trans x0;have u1:l.cell? ⟨tb,1,none⟩=some (.bool B):=(a.cell v).trans t1;have y1:l.cell? ⟨w.heap.size,1,none⟩=some (.bool b):=(a.cell x).trans x1;have u2:l.cell? ⟨tb,2,none⟩=some (.bool C):=(a.cell v).trans t2;have y2:l.cell? ⟨w.heap.size,2,none⟩=some (.bool c):=(a.cell x).trans x2;have u3:l.cell? ⟨tb,3,none⟩=some (.string M):=(a.cell v).trans t3;have y3:l.cell? ⟨w.heap.size,3,none⟩=some (.string j):=(a.cell x).trans x3;have u4:l.cell? ⟨tb,4,none⟩=some (.int .i64 D):=(a.cell v).trans t4;have y4:l.cell? ⟨w.heap.size,4,none⟩=some (.int .i64 d):=(a.cell x).trans x4;have u5:l.cell? ⟨tb,5,none⟩=some (.int .i64 E):=(a.cell v).trans t5;have y5:l.cell? ⟨w.heap.size,5,none⟩=some (.int .i64 f):=(a.cell x).trans x5;have u6:l.cell? ⟨tb,6,none⟩=some (.slice y N.length I):=(a.cell v).trans t6;have y6:l.cell? ⟨w.heap.size,6,none⟩=some (.slice xa k.length xc):=(a.cell x).trans x6;have O:=K1.trans a;have a1:tb<l.heap.size:=I_ v a.size;have a2:w.heap.size<l.heap.size:=I_ x a.size;clear a v x K1 t0 t1 t2 t3 t4 t5 t6 x0 x1 x2 x3 x4 x5 x6;have hT:=S.kept O;have hX:=T.kept O;clear S T;go_upto_region 3 with fail
   cases h0:(L.toList == i.toList)
   ·go_region
    all_goals
     go_wp2
     go_ret
     exact⟨Says.no (by simp[kZ h0]),O.drew⟩
   ·have E0:=Kz (fu h0);cases sE
    ·have Q:=of_decide_eq_false HE.o;have X:=Kz Q;clear Q;go_region
     all_goals
      go_wp2
      go_ret
      exact⟨Says.no (fun h=>Ki (by first | exact⟨h.2.1,h.2.2.1,h.2.2.2.1⟩ | (rw[Q_.mk.injEq] at h;exact⟨h.2.1,h.2.2.1,h.2.2.2.1⟩)) X.o),O.drew⟩
    ·cases sP
     ·have Q:=of_decide_eq_false HP.o;have X:=Kz Q;clear Q;go_region
      all_goals
       go_wp2
       go_ret
       exact⟨Says.no (fun h=>Ki (by first | exact⟨h.2.2.2.2.1,h.2.2.2.2.2.1⟩ | (rw[Q_.mk.injEq] at h;exact⟨h.2.2.2.2.1,h.2.2.2.2.2.1⟩)) X.o),O.drew⟩
     ·have a7:True:=trivial;have a3:∀w',K_ l w'->(fun w'=>w'.cell? ⟨tb,0,none⟩=some (.string L)/\w'.cell? ⟨w.heap.size,0,none⟩=some (.string i)/\w'.cell? ⟨tb,6,none⟩=some (.slice y N.length I)/\w'.cell? ⟨w.heap.size,6,none⟩=some (.slice xa k.length xc)) w':=fun w' a=>⟨(a.cell a1).trans u0,(a.cell a2).trans y0,(a.cell a1).trans u6,(a.cell a2).trans y6⟩
      have Y:=Kz a3;clear a3;refine Qk.region (by kernel_rfl) (fun w'=>w'.cell? ⟨tb,0,none⟩=some (.string L)/\w'.cell? ⟨w.heap.size,0,none⟩=some (.string i)/\w'.cell? ⟨tb,6,none⟩=some (.slice y N.length I)/\w'.cell? ⟨w.heap.size,6,none⟩=some (.slice xa k.length xc)) 24 (Y.o _ (aG l)) (fun G=>?_);have P:K_ l l.drew:=aG l;generalize a5:l.drew=wd at G P⊢;clear a5;refine aB 0 G ?_;refine aB 4 G ?_;refine aB 8 G ?_;refine aB 12 G ?_;refine aB 16 G ?_;refine ae 20 G ?_;refine ae 21 G ?_;refine ai 22 (fun R H=>?_);go_simp
      go_at_call 107
      refine (sO _ y xa I xc N k hl a0 (hT.kept P) (hX.kept P)).mono ?_;rintro e w1 ⟨rfl,Z⟩;refine H.out _ _ (fun _=>Y.o _ (P.trans Z)) ?_;clear H R;try simp only[Act.put,upA,upB,upC]
      refine af 23 (fun R H=>?_);go_simp
      refine H.out _ _ (fun _=>Y.o _ (P.trans Z)) ?_;clear H R;try simp only[Act.put,upA,upB,upC]
      refine af 24 (fun R H=>?_);go_simp
      refine H.out _ _ (fun h=>Ki rfl h) ?_;clear H R;try simp only[Act.put,upA,upB,upC]
      refine ay ?_;go_wp2
      go_ret
      have m:=of_decide_eq_true HE.o;have p:=of_decide_eq_true HP.o;exact⟨yS (by simp[E0.out,m.1,m.2.1,m.2.2,p.1,p.2]),(O.trans P).trans Z⟩
