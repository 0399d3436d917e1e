import Derived.Test.YtlfofiaagibapaaGreatDoorKWGo6
import Derived.Deep.RegionHeldLaw
import Derived.Test.YtlfofiaagibapaaGreatDoorKVTraj
import Derived.Test.YtlfofiaagibapaaGreatDoorKLSame
import Derived.Test.YtlfofiaagibapaaGreatDoorKFLaid
set_option maxRecDepth 100000
set_option maxHeartbeats 25600000
namespace Go.Proofs.YtlfofiaagibapaaGreatDoor
open Go.RowKit Go.Proofs.Tryz
variable {w:NN}
theorem bZ{P:Program}{e:Func}{R:Ending->NN->Prop}{a:Act}{p q:Tmp}{c:TypeId}{b:Nat}(cs:List NP)(d:TypeDesc)(v:NP)(h:e.results= #[.cell p c,.tmp q])(f:a.tmps.getD p undef=.c b)(i:w.rangeAt b 0 cs)(j:P.underlying c=some d)(k:d.isRow=true)(hi:(P.info? c).map (·.size)=some cs.length)(l:a.tmps.getD q undef=v)(m:a.defers=[])(n:R (.returned (.tuple #[.agg cs.toArray,v])) w):bodyPost P e R .ret a w:=by
 refine bodyPost_ret ?_ m n;have r:a.tmps[p]?.getD undef=.c b:=by simpa using f
 have s:a.tmps[q]?.getD undef=v:=by simpa using l
 simp only[results,h];simp[r,s,asAddr,run_loadVar_mid w b 0 c cs d i j k hi]
def Jp(l:List Qz)(p:Nat):List Qz:=l.take p++l.drop (p+1)
def bY(key:List UInt8)(d:Qz):Bool:= !(d.name.toList == key)
theorem uC(f:Qz->Bool)(l:List Qz)(k:Nat)(h:k<l.length):(l.take (k+1)).filter f= (l.take k).filter f++(if f (l.getD k Qz.zero)=true then [l.getD k Qz.zero] else []):=by
 rw[Ms h,List.filter_append]
 congr 1
 have e:l.getD k Qz.zero=l[k]:=by simp[List.getD,h]
 rw[e];by_cases b:f l[k]=true
 .simp[b]
 .simp[b]
theorem ny(d:Qz)(a:NM)(c:Nat):∀u∈([.string d.name,.a d.cost,.slice a d.steps.length c]:List NP),u.oneCell'=true:=by
 intro u b;simp only[Nh,Ni,or_false] at b;rcases b with rfl|rfl|rfl<;>rfl
variable {l:List Qz}
theorem yg(h:bE l 0):f_ l:=by
 have a:¬iM l:=by
  rcases h with⟨_,e⟩|⟨_,_,e⟩|⟨_,_,_,e⟩|⟨_,_,_,_,e⟩|⟨_,_,b,_,_⟩
  .omega
  .omega
  .omega
  .omega
  .exact b
 refine CQ λi c=>?_
 cases d:Op.bytesLess (nameAt l i) (nameAt l (i+1))
 .exact NB ⟨i,c,d⟩ a
 .rfl
variable {j p:Nat}
theorem Dq(b:f_ l)(d:p<l.length)(f:j<l.length)(e:nameAt l j=nameAt l p):j=p:=by
 by_cases h:j=p
 .exact h
 .rcases Nat.lt_or_gt_of_ne h with a|a
  .have:=b j p a d;rw[e,dP] at this;cases this
  .have:=b p j a f;rw[e,dP] at this;cases this
variable {key:List UInt8}
theorem Eb(k:f_ l)(a:p<l.length)(e:nameAt l p=key):l.filter (bY key)=Jp l p:=by
 have h:∀j (b:j<l.length),j≠p->bY key l[j]=true:=λj b m=>by
  have c:nameAt l j=l[j].name.toList:=by unfold nameAt;simp[List.getD,b]
  simp only[bY,Bool.not_eq_true',beq_eq_false_iff_ne];intro n;exact m (Dq k a b (by rw[c,n,e]))
 have q:bY key l[p]=false:=by
  have c:nameAt l p=l[p].name.toList:=by unfold nameAt;simp[List.getD,a]
  simp[bY,<-c,e]
 have r:l=l.take p++(l[p] :: l.drop (p+1)):=by
  rw[<-Nw a,Nr]
 have s:(l.take p).filter (bY key)=l.take p:=List.filter_eq_self.2 λt d=>by
  obtain⟨i,f,rfl⟩:=MB d;rw[ML] at f;rw[MW];exact h i E5 E5
 have v:(l.drop (p+1)).filter (bY key)=l.drop (p+1):=List.filter_eq_self.2 λt d=>by
  obtain⟨i,f,rfl⟩:=MB d;rw[List.length_drop] at f;rw[List.getElem_drop];exact h _ E5 E5
 unfold Jp
 conv=>lhs;rw[r]
 rw[List.filter_append,List.filter_cons_of_neg (by rw[q];simp),s,v]
def jQ(key:List UInt8)(d:Qz):Bool:=Op.bytesLess d.name.toList key
def kI(key:List UInt8)(d:Qz):Bool:=Op.bytesLess key d.name.toList
def lS(l:List Qz)(d:Qz):List Qz:=l.filter (jQ d.name.toList)++d :: l.filter (kI d.name.toList)
theorem xK{x y:List UInt8}(h:Op.bytesLess x y=true):Op.bytesLess y x=false:=by
 cases b:Op.bytesLess y x
 .rfl
 .have:=fu _ _ _ h b;rw[dP] at this;cases this
theorem iE(h:j<l.length):nameAt l j=l[j].name.toList:=by unfold nameAt;simp[List.getD,h]
theorem Place.less(h:Place l key p):l.filter (jQ key)=l.take p:=by
 have c:(l.take p).filter (jQ key)=l.take p:=List.filter_eq_self.2 λd a=>by
  obtain⟨i,b,rfl⟩:=MB a;rw[ML] at b;rw[MW];have:=h.before i E5;rw[iE E5] at this;exact this
 have e:(l.drop p).filter (jQ key)=[]:=List.filter_eq_nil_iff.2 λd a=>by
  obtain⟨i,b,rfl⟩:=MB a;rw[List.length_drop] at b;rw[List.getElem_drop];have:=h.behind (p+i) E5 E5;rw[iE E5] at this;simp[jQ,this]
 conv=>lhs;rw[<-Nr p l]
 rw[List.filter_append,c,e,List.append_nil]
theorem Place.ahead(h:Place l key p):(l.take p).filter (kI key)=[]:=List.filter_eq_nil_iff.2 λe b=>by
 obtain⟨i,d,rfl⟩:=MB b;rw[ML] at d;rw[MW];have:=h.before i E5;rw[iE E5] at this;simp[kI,xK this]
theorem Place.more(_:f_ l)(h:Place l key p)(c:∀j,j<l.length->nameAt l j≠key):l.filter (kI key)=l.drop p:=by
 have d:(l.drop p).filter (kI key)=l.drop p:=List.filter_eq_self.2 λk e=>by
  obtain⟨i,f,rfl⟩:=MB e;rw[List.length_drop] at f;rw[List.getElem_drop];have a:=h.behind (p+i) E5 E5;have b:=c (p+i) E5;rw[iE E5] at a b;exact qZ _ _ a b
 conv=>lhs;rw[<-Nr p l]
 rw[List.filter_append,h.ahead,d,List.nil_append]
theorem Place.Kt(c:f_ l)(h:Place l key p)(b:p<l.length)(e:nameAt l p=key):l.filter (kI key)=l.drop (p+1):=by
 have f:(l.drop (p+1)).filter (kI key)=l.drop (p+1):=List.filter_eq_self.2 λd j=>by
  obtain⟨i,k,rfl⟩:=MB j;rw[List.length_drop] at k;rw[List.getElem_drop];have a:=c p (p+1+i) E5 E5;rw[e,iE E5] at a;exact a
 have a:=Nw b;have m:kI key l[p]=false:=by
  rw[iE b] at e;simp[kI,e,dP]
 conv=>lhs;rw[<-Nr p l]
 rw[List.filter_append,h.ahead,a,List.filter_cons_of_neg (by rw[m];simp),f,List.nil_append]
theorem IP(key:List UInt8)(m:f_ l):∃p,Place l key p:=by
 have:∀n,n<=l.length->∃p,p<=n/\(∀j,j<p->Op.bytesLess (nameAt l j) key=true)/\∀j,p<=j->j<n->Op.bytesLess (nameAt l j) key=false:=by
  intro n
  induction n with
  |zero=>exact λ_=>⟨0,Mj _,λj b=>aO b,λj _ b=>aO b⟩
  |succ n ih=>
   intro r;let⟨p,s,e,i⟩:=ih E5;by_cases f:p=n
   .subst f;cases c:Op.bytesLess (nameAt l p) key
    .refine⟨p,E5,e,λj a d=>?_⟩;obtain rfl:j=p:=E5;exact c
    .refine⟨p+1,Mj _,λj b=>?_,λj a d=>E5⟩;by_cases f:j=p
     .rw[f];exact c
     .exact e j E5
   .refine⟨p,E5,e,λj a d=>?_⟩;by_cases q:j=n
    .subst q;cases c:Op.bytesLess (nameAt l j) key
     .rfl
     .have h:=m p j E5 E5;have k:=i p (Mj _) E5;rw[fu _ _ _ h c] at k;cases k
    .exact i j a E5
 let⟨p,a,d,h⟩:=this l.length (Mj _);exact⟨p,a,d,h⟩
theorem nM(key:List UInt8)(a:f_ l):l.filter (bY key)=l.filter (jQ key)++l.filter (kI key):=by
 let⟨p,b⟩:=IP key a;by_cases h:p<l.length/\nameAt l p=key
 .rw[Eb a h.1 h.2,b.less,b.Kt a h.1 h.2]
  rfl
 .have c:∀j,j<l.length->nameAt l j≠key:=λj f e=>by
   have:=b.only a f e;subst this;exact h ⟨f,e⟩
  rw[b.less,b.more a c,Nr];refine List.filter_eq_self.2 λd m=>?_
  obtain⟨i,k,rfl⟩:=MB m;have:=c i k;rw[iE k] at this;simpa[bY] using this
def p_(l:List Qz)(d:Qz):Nat:=(l.filter (jQ d.name.toList)).length
variable {d:Qz}
theorem rZ(a:f_ l):(lS l d).length= (l.filter (bY d.name.toList)).length+1:=by
 rw[nM _ a];simp[lS];omega
theorem FU(a:f_ l):p_ l d<=(l.filter (bY d.name.toList)).length:=by
 rw[nM _ a];simp[p_]
theorem Ie(l:List Qz)(d:Qz):(lS l d).getD (p_ l d) Qz.zero=d:=by simp[lS,p_,List.getD]
theorem FQ{x:Qz}(h:x∈lS l d):x=d\/x∈l:=by
 simp only[lS,Mv,Nh,List.mem_filter] at h;rcases h with h|h|h
 .exact .inr h.1
 .exact .inl h
 .exact .inr h.1
theorem Fz{m:Nat}(h:m<l.length):l.take (m+1)=l.take m++[l.getD m Qz.zero]:=by
 rw[Ms h];simp[List.getD,h]
def Bt(l:List Qz)(d:Qz)(c:Int)(r:List Qz):Prop:=(¬bE l 0/\c=1/\r=[])\/(bE l 0/\(¬jo d.name\/¬gQ ⟨d.cost,d.steps⟩)/\c=2/\r=[])\/(bE l 0/\jo d.name/\gQ ⟨d.cost,d.steps⟩/\60<(lS l d).length/\c=3/\r=[])\/
 (bE l 0/\jo d.name/\gQ ⟨d.cost,d.steps⟩/\(lS l d).length<=60/\c=0/\r=lS l d)
theorem Bt.mem{r:List Qz}{c:Int}(h:Bt l d c r){x:Qz}(a:x∈r):x=d\/x∈l:=by
 rcases h with⟨_,_,rfl⟩|⟨_,_,_,rfl⟩|⟨_,_,_,_,_,rfl⟩|⟨_,_,_,_,_,rfl⟩
 .cases a
 .cases a
 .cases a
 .exact FQ a
theorem Bt.len{r:List Qz}{c:Int}(h:Bt l d c r):r.length<=60:=by
 rcases h with⟨_,_,rfl⟩|⟨_,_,_,rfl⟩|⟨_,_,_,_,_,rfl⟩|⟨h,_,_,b,_,rfl⟩
 .simp
 .simp
 .simp
 .exact b
theorem qW{l a:List NL}(c:l.length=a.length)(h:∀j,j<l.length->l.getD j ByteArray.empty=a.getD j ByteArray.empty):l=a:=by
 refine List.ext_getElem c λi b f=>?_
 have:=h i b;simpa[List.getD,b,f] using this
theorem jr(w:NN)(a q:NM)(c y:Nat)(l b:List NL)(K:l.length<=1048576)(_hl':b.length<=1048576)(z:Strs w a l)(A:Strs w q b):Calls prog 125 #[.slice a l.length c,.slice q b.length y] w λe w'=>e=.returned (.bool (decide (l=b)))/\K_ w w':=by
 go_enter func125,ntmps125
 by_cases h:l.length=b.length
 .have B:((l.length:Int) == (b.length:Int))=true:=by simp[h]
  have C:(l.length:Int)= (b.length:Int):=E5;go_wp2
  go_loopw [5] (λi wr=>∃k:Nat,k<=l.length/\i=.a k/\Hid (∀j,j<k->l.getD j ByteArray.empty=b.getD j ByteArray.empty)/\K_ w wr) (λi _=>l.length-(intOf i).toNat)
  case atStart=>exact⟨0,Ml _,rfl,Kz λj m=>aO m,K_.refl _⟩
  case round=>
   obtain⟨k,L,rfl,r,d⟩:=hrel;by_cases D:k<l.length
   .obtain⟨M,o,rfl,N,E⟩:=z.kept d k D;obtain⟨O,P,rfl,Q,F⟩:=A.kept d k E5;have R:(k:Int)<(l.length:Int):=E5;have S:(k:Int)<(b.length:Int):=E5;let⟨G,n⟩:=aj (l.getD k ByteArray.empty);let⟨H,p⟩:=aj (b.getD k ByteArray.empty);rw[<-n] at E;rw[<-p] at F;have⟨s,t⟩:=aH n p;clear n p;cases v:(G.toList == H.toList)
    .go_upto_region 6 with fail
     go_quiet (fail)
     go_wp2
     go_ret
     have f:¬l=b:=λe=>by
      have x:=jN v;rw[s.o,t.o,e] at x;exact x rfl
     exact⟨by rw[decide_eq_false f];rfl,d.drewN _⟩
    .go_upto_region 6 with fail
     go_quiet (fail)
     go_wp2
     go_roundw
     case rel=>
      refine⟨k+1,E5,F3,Kz λj m=>?_,d.drewN _⟩;by_cases e:j=k
      .rw[e,<-s.o,<-t.o];exact fC v
      .exact r.o j E5
     case measure=>simp[intOf];omega
   .go_wp2
    go_ret
    have I:l=b:=qW h λj m=>r.o j E5
    exact⟨by rw[decide_eq_true I];rfl,d⟩
 .have B:((l.length:Int) == (b.length:Int))=false:=F6;have C:¬(l.length:Int)= (b.length:Int):=E5;have f:¬l=b:=λe=>h (by rw[e])
  have J:=Kz f;clear f;go_wp2
  go_ret
  exact⟨by rw[decide_eq_false J.o];rfl,K_.refl _⟩
theorem CO(w:NN)(r a:Q_)(xa xa':NM)(xc xc':Nat)(t:r.texts.length<=1048576)(v:a.texts.length<=1048576)(x:Strs w xa r.texts)(y:Strs w xa' a.texts):Calls prog 126 #[.agg #[.string r.name,.bool r.over,.bool r.fail,.string r.text,.a r.at',.a r.Zq,.slice xa r.texts.length xc],.agg #[.string a.name,.bool a.over,.bool a.fail,.string a.text,.a a.at',.a a.Zq,.slice xa' a.texts.length xc']] w λe w'=>(∃b,e=.returned (.bool b)/\(b=true↔r=a))/\K_ w w':=by
 let⟨z,d,f,A,j,k,B⟩:=r;let⟨C,n,p,D,l,m,E⟩:=a;dsimp only at t v x y⊢;have c:K_ w ((w.alloc (.cells #[.string z,.bool d,.bool f,.string A,.a j,.a k,.slice xa B.length xc] 48)).alloc (.cells #[.string C,.bool n,.bool p,.string D,.a l,.a m,.slice xa' E.length xc'] 48)):=(ah _ _).alloc _;go_enter func126,ntmps126
 cases F:(z.toList == C.toList)
 .go_wp2
  go_ret
  exact⟨⟨false,rfl,by simp[jN F]⟩,c⟩
 .have H:=Kz (fC F);by_cases q:d=n
  .subst q;have I:(d == d)=true:=E9;by_cases s:f=p
   .subst s;have J:(f == f)=true:=E9;cases G:(A.toList == D.toList)
    .go_wp2
     go_ret
     exact⟨⟨false,rfl,by simp[jN G]⟩,c⟩
    .have K:=Kz (fC G);by_cases h:j=l
     .have L:(j == l)=true:=by simp[h]
      have M:=Kz h;clear h;by_cases i:k=m
      .have N:(k == m)=true:=by simp[i]
       have O:=Kz i;clear i;go_wp2_with (go_at_call 125;refine (jr _ xa xa' xc xc' B E t v (x.kept c) (y.kept c)).mono ?_;rintro e Q ⟨rfl,P⟩)
       go_ret
       exact⟨⟨_,rfl,by simp[H.out,K.out,M.out,O.out]⟩,c.trans P⟩
      .have N:(k == m)=false:=by simp[i]
       go_wp2
       go_ret
       exact⟨⟨false,rfl,by simp[i]⟩,c⟩
     .have L:(j == l)=false:=by simp[h]
      go_wp2
      go_ret
      exact⟨⟨false,rfl,by simp[h]⟩,c⟩
   .have J:(f == p)=false:=by simp[s]
    go_wp2
    go_ret
    exact⟨⟨false,rfl,by simp[s]⟩,c⟩
  .have I:(d == n)=false:=by simp[q]
   go_wp2
   go_ret
   exact⟨⟨false,rfl,by simp[q]⟩,c⟩
theorem Gg{l a:List Q_}(c:l.length=a.length)(h:∀j,j<l.length->l.getD j Q_.zero=a.getD j Q_.zero):l=a:=by
 refine List.ext_getElem c λi b f=>?_
 have:=h i b;simpa[List.getD,b,f] using this
def Jd(e:Ending)(p:Prop):Prop:=∃b,e=.returned (.bool b)/\(b=true↔p)
theorem IM(w:NN)(n p d N:NM)(q A B dc':Nat)(Kj j:List NL)(l a:List Q_)(a1:Kj.length<=1048576)(a2:j.length<=1048576)(hl:l.length<=1048576)(_hl':a.length<=1048576)(ht:∀x∈l,x.texts.length<=1048576)(b1:∀x∈a,x.texts.length<=1048576)(hR:Strs w n Kj)(a3:Strs w p j)(hS:bN w d l)(b2:bN w N a):Calls prog 70 #[.agg #[.slice n Kj.length q,.slice d l.length B],.agg #[.slice p j.length A,.slice N a.length dc']] w λe w'=>Jd e (Kj=j/\l=a)/\K_ w w':=by
 let⟨W,D⟩:=aj ((w.alloc (.cells #[.slice n Kj.length q,.slice d l.length B] 43)).alloc (.cells #[.slice p j.length A,.slice N a.length dc'] 43));have m:K_ w W:=by rw[D];exact (ah _ _).alloc _
 let⟨E,X⟩:=aj w.heap.size;let⟨F,Y⟩:=aj (w.heap.size+1);have hA:W.rangeAt E 0 [.slice n Kj.length q,.slice d l.length B]:=by
  rw[D,X];exact K_.range (ah _ _) E9 (X_ w #[.slice n Kj.length q,.slice d l.length B] 43)
 have hB:W.rangeAt F 0 [.slice p j.length A,.slice N a.length dc']:=by
  have:=X_ (w.alloc (.cells #[.slice n Kj.length q,.slice d l.length B] 43)) #[.slice p j.length A,.slice N a.length dc'] 43;rw[MZ] at this;rw[D,Y];exact this
 have Z:E<W.heap.size:=by rw[D,X];simp;omega
 have a0:F<W.heap.size:=by rw[D,Y];simp
 have R:Hid (∀w',K_ W w'->(E<w'.heap.size/\F<w'.heap.size)/\M4 w' E 0 (.slice n Kj.length q)/\M4 w' E 1 (.slice d l.length B)/\M4 w' F 0 (.slice p j.length A)/\M4 w' F 1 (.slice N a.length dc')):=λw' O=>⟨⟨Mk Z O.size,Mk a0 O.size⟩,(O.cell Z).trans (hA 0 _ rfl),(O.cell Z).trans (hA 1 _ rfl),(O.cell a0).trans (hB 0 _ rfl),(O.cell a0).trans (hB 1 _ rfl)⟩
 clear hA hB Z a0;go_enter func70,ntmps70
 go_upto_region 1 with fail
 rw[<-D,<-Y,<-X];clear D X Y;let⟨⟨r,s⟩,G,H,I,J⟩:=R.o W (K_.refl _);by_cases S:Kj=j
 .have hd:decide (Kj=j)=true:=decide_eq_true S;have Hr:=Kz S;clear S;by_cases T:l.length=a.length
  .have b3:((l.length:Int) == (a.length:Int))=true:=by simp[T]
   have b4:((l.length:Int) != (a.length:Int))=false:=by simp[T]
   have a8:=Kz T;clear T;go_wp2_with (go_at_call 125;refine (jr _ n p q A Kj j a1 a2 (hR.kept m) (a3.kept m)).mono ?_;rintro e K ⟨rfl,C⟩;rw[hd];clear r s G H I J;let⟨⟨r,s⟩,G,H,I,J⟩:=R.o K C)
   go_loopw [5] (λi wr=>∃k:Nat,k<=l.length/\i=.a k/\Hid (∀t,t<k->l.getD t Q_.zero=a.getD t Q_.zero)/\K_ W wr) (λi _=>l.length-(intOf i).toNat)
   case atStart=>exact⟨0,Ml _,rfl,Kz λt hj=>aO hj,C⟩
   case round=>
    obtain⟨k,hk,rfl,HG,P⟩:=hrel;clear r s G H I J;let⟨⟨r,s⟩,_,m1,_,m2⟩:=R.o wr P;by_cases a4:k<l.length
    .have a5:k<a.length:=by have:=a8.o;omega
     obtain⟨b,o,xa,ca,rfl,L,v,a6,_⟩:=hS.kept (m.trans P) k a4;obtain⟨c,f,xb,cb,rfl,M,z,a7,_⟩:=b2.kept (m.trans P) k a5;have a9:(l.getD k Q_.zero).texts.length<=1048576:=by simp only[List.getD,a4,Mq,NC];exact ht _ (Mw a4)
     have b0:(a.getD k Q_.zero).texts.length<=1048576:=by simp only[List.getD,a5,Mq,NC];exact b1 _ (Mw a5)
     have i0:(k:Int)<(l.length:Int):=E5;have i1:(k:Int)<(a.length:Int):=E5;let⟨x,hx⟩:=aj (l.getD k Q_.zero);let⟨y,hy⟩:=aj (a.getD k Q_.zero);rw[<-hx] at v a6 a9;rw[<-hy] at z a7 b0;have⟨HX,HY,b5,b6⟩:=nC hx hy a6 a7;have b7:Hid (∀w',K_ wr w'->(λw'=>M4 w' E 1 (.slice (some ⟨b,o,none⟩) l.length B)/\M4 w' F 1 (.slice (some ⟨c,f,none⟩) a.length dc')/\M4 w' b (o+k*7) (.string x.name)/\M4 w' b (o+k*7+1) (.bool x.over)/\M4 w' b (o+k*7+2) (.bool x.fail)/\M4 w' b (o+k*7+3) (.string x.text)/\M4 w' b (o+k*7+4) (.a x.at')/\M4 w' b (o+k*7+5) (.a x.Zq)/\M4 w' b (o+k*7+6) (.slice xa x.texts.length ca)/\M4 w' c (f+k*7) (.string y.name)/\M4 w' c (f+k*7+1) (.bool y.over)/\M4 w' c (f+k*7+2) (.bool y.fail)/\M4 w' c (f+k*7+3) (.string y.text)/\M4 w' c (f+k*7+4) (.a y.at')/\M4 w' c (f+k*7+5) (.a y.Zq)/\M4 w' c (f+k*7+6) (.slice xb y.texts.length cb)) w'):=λw' h=>⟨(h.cell r).trans m1,(h.cell s).trans m2,(h.cell L).trans (v 0 _ rfl),(h.cell L).trans (v 1 _ rfl),(h.cell L).trans (v 2 _ rfl),(h.cell L).trans (v 3 _ rfl),(h.cell L).trans (v 4 _ rfl),(h.cell L).trans (v 5 _ rfl),(h.cell L).trans (v 6 _ rfl),(h.cell M).trans (z 0 _ rfl),(h.cell M).trans (z 1 _ rfl),(h.cell M).trans (z 2 _ rfl),(h.cell M).trans (z 3 _ rfl),(h.cell M).trans (z 4 _ rfl),(h.cell M).trans (z 5 _ rfl),(h.cell M).trans (z 6 _ rfl)⟩
     clear v z hx hy a6 a7;go_upto_region 6 with fail
     go_cut [39] from 21 to 39 (λb8 wx=>∃Q,b8=.bool (!Q)/\(Q=true↔x=y)/\K_ wr wx)
     case first=>
      go_region_held (λw'=>M4 w' E 1 (.slice (some ⟨b,o,none⟩) l.length B)/\M4 w' F 1 (.slice (some ⟨c,f,none⟩) a.length dc')/\M4 w' b (o+k*7) (.string x.name)/\M4 w' b (o+k*7+1) (.bool x.over)/\M4 w' b (o+k*7+2) (.bool x.fail)/\M4 w' b (o+k*7+3) (.string x.text)/\M4 w' b (o+k*7+4) (.a x.at')/\M4 w' b (o+k*7+5) (.a x.Zq)/\M4 w' b (o+k*7+6) (.slice xa x.texts.length ca)/\M4 w' c (f+k*7) (.string y.name)/\M4 w' c (f+k*7+1) (.bool y.over)/\M4 w' c (f+k*7+2) (.bool y.fail)/\M4 w' c (f+k*7+3) (.string y.text)/\M4 w' c (f+k*7+4) (.a y.at')/\M4 w' c (f+k*7+5) (.a y.Zq)/\M4 w' c (f+k*7+6) (.slice xb y.texts.length cb)) (exact bg b7 _ G5) ((go_at_call 126;refine (CO _ x y xa xb ca cb a9 b0 (b5.o.kept G5) (b6.o.kept G5)).mono ?_;rintro e K ⟨⟨Q,rfl,U⟩,b9⟩;have HQ:=Kz U;clear U;have kq:K_ wr K:=K_.trans G5 b9))
      all_goals
       go_wp2
       go_meet
       exact⟨Q,rfl,HQ.o,kq⟩
     case rest=>
      obtain⟨Q,rfl,U,kq⟩:=hcut;have HQ:=Kz U;clear U;obtain⟨wq,rfl⟩:=aj wc;cases Q
      .go_wp2
       go_ret
       refine⟨⟨false,rfl,?_⟩,(m.trans P).trans kq⟩;constructor
       .intro V;cases V
       .rintro⟨_,e⟩;have:=HQ.o.2 (by rw[HX.o,HY.o,e]);cases this
      .go_wp2
       go_roundw
       case rel=>
        refine⟨k+1,E5,F3,Kz λt hj=>?_,P.trans kq⟩;by_cases e:t=k
        .rw[e,<-HX.o,<-HY.o];exact HQ.o.1 rfl
        .exact HG.o t E5
       case measure=>simp[intOf];omega
    .go_wp2
     go_ret
     exact⟨⟨true,rfl,λ_=>⟨Hr.o,Gg a8.o λt hj=>HG.o t E5⟩,λ_=>rfl⟩,m.trans P⟩
  .have b3:((l.length:Int) == (a.length:Int))=false:=F6;have b4:((l.length:Int) != (a.length:Int))=true:=F6;go_wp2_with (go_at_call 125;refine (jr _ n p q A Kj j a1 a2 (hR.kept m) (a3.kept m)).mono ?_;rintro e K ⟨rfl,C⟩;rw[hd];clear r s G H I J;let⟨⟨r,s⟩,G,H,I,J⟩:=R.o K C)
   go_ret
   exact⟨⟨false,rfl,(by constructor;(intro V;cases V);(rintro⟨_,e⟩;exact NB (by rw[e]) T))⟩,m.trans C⟩
 .have hd:decide (Kj=j)=false:=decide_eq_false S;go_wp2_with (go_at_call 125;refine (jr _ n p q A Kj j a1 a2 (hR.kept m) (a3.kept m)).mono ?_;rintro e K ⟨rfl,C⟩;rw[hd];clear r s G H I J;let⟨⟨r,s⟩,G,H,I,J⟩:=R.o K C)
  go_ret
  exact⟨⟨false,rfl,(by constructor;(intro V;cases V);(rintro⟨e,_⟩;exact NB e S))⟩,m.trans C⟩
theorem Tryz.De :(prog.info? 48).map (·.size)=some 7:=F4
theorem Tryz.Dc :(prog.info? 48).map (λi=>(i.zero,i.size,i.bytes))=some (some (.agg #[.string ⟨#[]⟩,.bool false,.bool false,.string ⟨#[]⟩,.a 0,.a 0,M3]),7,80):=F4
theorem Tryz.lF :(prog.info? 43).map (·.size)=some 2:=F4
def jH(w:NN)(B j lo hi:Nat)(r:Q_):Prop:=∃xa xc,w.rangeAt B (j*7) (r.cells xa xc)/\cB w lo hi xa r.texts/\(xa=none->xc=0)
variable {hi lo:Nat}
theorem jH.same{w':NN}{B:Nat}{r:Q_}(h:jH w B j lo hi r)(k:Same lo hi w w')(a:w'.rangeAt B (j*7)=w.rangeAt B (j*7)):jH w' B j lo hi r:=by
 let⟨b,c,d,e,f⟩:=h;exact⟨b,c,by rw[a];exact d,e.same k,f⟩
def gM(w:NN)(lo hi:Nat)(a:NM)(l:List Q_):Prop:=l=[]\/∃(b:Nat)(c:Nat->Nat),a=some ⟨b,0,none⟩/\lo<=b/\b<c 0/\c l.length<=hi/\Row w b (l.length*7)/\(∀i j,i<=j->c i<=c j)/\∀i,i<l.length->jH w b i (c i) (c (i+1)) (l.getD i Q_.zero)
theorem gM.same{w':NN}{a:NM}{l:List Q_}(h:gM w lo hi a l)(k:Same lo hi w w'):gM w' lo hi a l:=by
 rcases h with h|⟨d,c,p,e,f,j,m,b,q⟩
 .exact .inl h
 .have n:d<hi:=Mk f (Mm (b 0 _ (Ml _)) j);refine .inr ⟨d,c,p,e,f,j,k.row e n m,b,λi r=>(q i r).same (k.mono ?_ ?_) (rangeAt_of_block (k d e n m.lt) _)⟩
  .have:=b 0 i (Ml _);omega
  .have:=b (i+1) l.length E5;omega
theorem gM.mono{c d:Nat}{a:NM}{l:List Q_}(h:gM w lo hi a l)(n:c<=lo)(h2:hi<=d):gM w c d a l:=by
 rcases h with h|⟨b,e,f,p,i,q,j,k,m⟩
 .exact .inl h
 .exact .inr ⟨b,e,f,E5,i,E5,j,k,m⟩
theorem gM.runs{a:NM}{l:List Q_}(h:gM w lo hi a l):bN w a l:=by
 rcases h with rfl|⟨b,c,d,q,r,s,e,t,f⟩
 .intro i hi;simp at hi
 .intro i hi;let⟨j,k,m,n,p⟩:=f i hi;exact⟨b,0,j,k,d,e.lt,by rw[MR];exact m,n.strs,p⟩
theorem jH.kept{w':NN}{B:Nat}{r:Q_}(h:jH w B j lo hi r)(k:K_ w w')(c:B<w.heap.size):jH w' B j lo hi r:=h.same (k.same _ _) (rangeAt_of_block (k.block B c) _)
theorem jH.setCells{B o:Nat}{r:Q_}{vs:List NP}(h:jH w B j lo hi r)(a:B<lo)(b:j*7+7<=o\/o+vs.length<=j*7):jH (w.setCells B o vs) B j lo hi r:=by
 let⟨c,d,e,f,i⟩:=h;exact⟨c,d,MG e _ _ _ (by right;simpa[Q_.cells,or_comm] using b),f.same (Same.setCells (.inl a) _ _ _),i⟩
section
variable {Kq:List Qz}{Gl σ0 σs σ:Env}{ns:List NL}{i:Nat}{b:Bool}
structure oI (Kq:List Qz)(Gl σ0 σs:Env)(ns:List NL)(σ:Env)(i:Nat)(b:Bool):Prop where
 led:∃k,bf (Behind (W:=Kk Kq) dM Gl) (doX (Kk Kq)) σ0 σ k
 no:b=false->σ=σs/\∀j,j<i->¬Behind (W:=Kk Kq) dM Gl σs (ns.getD j ByteArray.empty)
 yes:b=true->dD (Kq.map (·.name)) σ<dD (Kq.map (·.name)) σs
theorem oI.start(a:∃k,bf (Behind (W:=Kk Kq) dM Gl) (doX (Kk Kq)) σ0 σs k):oI Kq Gl σ0 σs ns σs 0 false:=⟨a,λ_=>⟨rfl,λj b=>aO b⟩,λh=>by cases h⟩
theorem oI.skip(h:oI Kq Gl σ0 σs ns σ i b)(c:¬Behind (W:=Kk Kq) dM Gl σ (ns.getD i ByteArray.empty)):oI Kq Gl σ0 σs ns σ (i+1) b:=⟨h.led,λa=>⟨(h.no a).1,λj e=>by
  by_cases d:j=i
  .subst d;rw[<-(h.no a).1];exact c
  .exact (h.no a).2 j E5⟩,h.yes⟩
theorem oI.did(c:WfX (Kk Kq) σ)(h:oI Kq Gl σ0 σs ns σ i b){n:NL}(a:Behind (W:=Kk Kq) dM Gl σ n):oI Kq Gl σ0 σs ns (doX (Kk Kq) σ n) (i+1) true:=by
 let⟨k,e⟩:=h.led;let⟨r,f,_⟩:=a.1;have d:=(m_ c a.1 (Kq.map (·.name))).2 (l_ (c n r f).web);refine⟨⟨k+1,e.snoc a⟩,λj=>(by cases j),λ_=>?_⟩;cases b with
 |true=>have:=h.yes rfl;omega
 |false=>rw[(h.no rfl).1] at d⊢;exact d
theorem oI.JG(h:oI Kq Gl σ0 σs ns σ ns.length false)(c:∀n r,σs n=some r->n∈ns):AtEnd (Behind (W:=Kk Kq) dM Gl) σ:=by
 let⟨d,e⟩:=h.no rfl;intro n a;rw[d] at a;let⟨r,f,_⟩:=a.1;let⟨j,b,i⟩:=MB (c n r f);have:=e j b;simp only[List.getD,Mq b,NC,i] at this;exact this a
end
theorem yH(w:NN)(v:Nat)(d:v<18446744073709551616)(f:oF w):Calls prog 221 #[.int .u64 v,.a 16] w λe w'=>(∃(n:Nat)(b:NL),e=.returned (.string b)/\b.data.toList=jI n v/\1<=n/\n<=16/\v<16 ^ n)/\K_ w w':=by
 go_enter func221,ntmps221
 go_wp2_with fail
 refine (yf _ v d f).mono ?_;rintro e m ⟨⟨n,b,rfl,a,h,i,c⟩,j⟩;have⟨k,l⟩:=aH a c;clear a c;go_wp2
 go_ret
 exact⟨⟨n,b,rfl,k.o,h,i,l.o⟩,j⟩
theorem xk(w:NN)(v:Nat)(d:v<18446744073709551616)(f:oF w):Calls prog 199 #[.int .u64 v,.a 16] w λe w'=>(∃(n:Nat)(b:NL),e=.returned (.string b)/\b.data.toList=jI n v/\1<=n/\n<=16/\v<16 ^ n)/\K_ w w':=by
 go_enter func199,ntmps199
 go_wp2_with fail
 refine (yH _ v d f).mono ?_;rintro e m ⟨⟨n,b,rfl,a,h,i,c⟩,j⟩;have⟨k,l⟩:=aH a c;clear a c;go_wp2
 go_ret
 exact⟨⟨n,b,rfl,k.o,h,i,l.o⟩,j⟩
theorem D_(w:NN)(v:Nat)(d:v<18446744073709551616)(f:oF w):Calls prog 176 #[.int .u64 v,.a 16] w λe w'=>(∃b:NL,e=.returned (.string b)/\b.data.toList=jI 16 v)/\K_ w w':=by
 go_enter func176,ntmps176
 go_wp2_with fail
 refine (xk _ v d f).mono ?_;rintro e q ⟨⟨n,b,rfl,a,r,s,c⟩,h⟩;have t:b.size=n:=by have:=congrArg List.length a;rw[iL] at this;simpa using this
 have⟨i,j⟩:=aH a c;clear a c;obtain⟨m,k⟩:∃m:Nat,m+n=16:=⟨16-n,E5⟩;have x:(16:Int)-(n:Int)= (m:Int):=E5;have y:(⟨#[48]⟩:NL).data.toList=[48]:=rfl;have l:(⟨#[48]⟩:NL).size*m<=140737488355328:=by rw[show (⟨#[48]⟩:NL).size=1 from rfl];omega
 have z:(m:Int)<=9223372036854775807:=E5;go_wp2_with fail
 refine (Tryz.strings_Repeat ⟨#[48]⟩ m _ E5 l).mono ?_;rintro e A ⟨rfl,p⟩;have B:(⟨(Lib.repeatL [48] m).toArray⟩:NL).size<=16:=by show (Lib.repeatL [48] m).toArray.size<=16;rw[List.size_toArray,Lib.repeatL_length];simp;omega
 go_wp2
 go_ret
 refine⟨⟨_,rfl,?_⟩,K_.trans h p⟩;rw[fT,i.o,<-k,Bz n v j.o m]
 congr 1
 have:=Lib.repeatL_replicate 48 1 m;simpa using this
def Gi(s:NL):Prop:=200<s.size
theorem sD(w:NN)(s:NL):Calls prog 174 #[.string s] w λe w'=>Says e (Gi s)/\w'=w:=by
 by_cases h:(200:Int)<s.size
 .have b:decide ((200:Int)<s.size)=true:=by simpa using h
  go_enter func174,ntmps174
  go_wp2
  go_ret
  exact⟨Says.congr (p:=True) (Says.yes trivial) ⟨λ_=>by unfold Gi;omega,λ_=>trivial⟩,rfl⟩
 .have b:decide ((200:Int)<s.size)=false:=by simpa using h
  go_enter func174,ntmps174
  go_wp2
  go_ret
  exact⟨Says.congr (p:=False) (Says.no id) ⟨False.elim,λg=>by unfold Gi at g;omega⟩,rfl⟩
def BH(l:List NL):Prop:=∃i,i<l.length/\Gi (l.getD i ByteArray.empty)
theorem yM(w:NN)(a:NM)(v:Nat)(l:List NL)(x:l.length<=maxLen)(y:Strs w a l):Calls prog 184 #[.slice a l.length v,.func (.func 174) #[] #[]] w λe w'=>(∃r,e=.returned (.a r)/\(0<=r↔BH l))/\w'=w:=by
 unfold maxLen at x;go_enter func184,ntmps184
 go_wp2
 go_loop [8] (λi=>∃k:Nat,k<=l.length/\i=.a k/\∀j,j<k->¬Gi (l.getD j ByteArray.empty)) (λi=>l.length-(intOf i).toNat)
 case atStart=>exact⟨0,Ml _,rfl,λj h=>aO h⟩
 case round=>
  obtain⟨k,C,rfl,m⟩:=hrel;have n:=Kz m;clear m;by_cases p:k<l.length
  .obtain⟨b,o,rfl,D,z⟩:=y k p;let⟨c,d⟩:=aj (l.getD k ByteArray.empty);rw[<-d] at z;have q:=Kz d;clear d;go_wp2_with fail
   refine (sD _ c).mono ?_;rintro e E ⟨f,rfl⟩;rcases f.cases with⟨rfl,s⟩|⟨rfl,t⟩
   .have A:=Kz s;clear s f;go_wp2
    go_ret
    exact⟨⟨k,rfl,⟨λ_=>⟨k,p,by rw[<-q.o];exact A.o⟩,λ_=>E5⟩⟩,rfl⟩
   .have B:=Kz t;clear t f;go_wp2
    go_round
    case rel=>
     refine⟨k+1,E5,F3,λj h=>?_⟩;by_cases e:j=k
     .subst e;rw[<-q.o];exact B.o
     .exact n.o j E5
    case measure=>simp[intOf];omega
  .go_wp2
   go_ret
   exact⟨⟨-1,rfl,⟨λF=>E5,λ⟨i,G,e⟩=>NB e (n.o i E5)⟩⟩,rfl⟩
theorem tV(w:NN)(a:NM)(d:Nat)(l:List NL)(i:l.length<=maxLen)(j:Strs w a l):Calls prog 154 #[.slice a l.length d,.func (.func 174) #[] #[]] w λe w'=>Says e (BH l)/\w'=w:=by
 go_enter func154,ntmps154
 go_wp2_with fail
 refine (yM _ a d l i j).mono ?_;rintro e n ⟨⟨r,rfl,f⟩,rfl⟩;have h:=Kz f;clear f;by_cases c:0<=r
 .have k:decide (0<=r)=true:=by simpa using c
  go_wp2
  go_ret
  exact⟨Says.congr (p:=True) (Says.yes trivial) ⟨λ_=>h.o.1 c,λ_=>trivial⟩,rfl⟩
 .have k:decide (0<=r)=false:=by simpa using c
  go_wp2
  go_ret
  exact⟨Says.congr (p:=False) (Says.no id) ⟨False.elim,λm=>by have:=h.o.2 m;omega⟩,rfl⟩
theorem Iz(w:NN)(a:NM)(c:Nat)(l:List NL)(h:l.length<=c)(t:l.length<=100)(i:(Lib.join (texts l) [44]).length<=140737488355328)(d:Strs w a l):Calls prog 175 #[.slice a l.length c,.string ⟨#[44]⟩] w λe w'=>(∃b:NL,e=.returned (.string b)/\b.data.toList=Lib.join (texts l) [44])/\K_ w w':=by
 by_cases j:l.length=0
 .have k:l=[]:=NE j;subst k;refine (Tryz.strings_Join_none a c ⟨#[44]⟩ w).mono ?_;rintro e w' ⟨rfl,rfl⟩;exact⟨⟨_,rfl,rfl⟩,K_.refl _⟩
 .obtain⟨b,o,rfl,m,_⟩:=d 0 E5;refine (Tryz.strings_Join b o c l ⟨#[44]⟩ w (λn x p=>?_) m E5 h i).mono ?_
  .obtain⟨f,q⟩:=Mr.1 p;let⟨v,y,e,_,r⟩:=d n f;simp only[Na,NI,and_true] at e;obtain⟨rfl,rfl⟩:=e;rw[r];simp[List.getD,f,q]
  .rintro e w' ⟨rfl,s⟩;exact⟨⟨_,rfl,rfl⟩,s⟩
theorem Ee(w:NN)(give:NL)(a:NM)(k:Nat)(l:List NL)(F:give.size<=maxLen)(t:l.length<=maxLen)(x:Strs w a l)(G:l.length<=k)(H:oF w):Calls prog 135 #[.string give,.slice a l.length k] w λe w'=>e=.returned (.string (nL give l))/\K_ w w':=by
 have I:=t;unfold maxLen at F t;by_cases y:(30:Int)<give.size
 .have n:decide ((30:Int)<give.size)=true:=by simpa using y
  go_enter func135,ntmps135
  go_wp2
  go_ret
  exact⟨lX (kF (.inl E5)).symm,K_.refl _⟩
 .have n:decide ((30:Int)<give.size)=false:=by simpa using y
  by_cases z:(100:Int)<l.length
  .have p:decide ((100:Int)<l.length)=true:=by simpa using z
   go_enter func135,ntmps135
   go_wp2
   go_ret
   exact⟨lX (kF (.inr (.inl E5))).symm,K_.refl _⟩
  .have p:decide ((100:Int)<l.length)=false:=by simpa using z
   go_enter func135,ntmps135
   go_wp2_with fail
   refine (tV _ a k l I x).mono ?_;rintro e S ⟨b,rfl⟩;rcases b.cases with⟨rfl,f⟩|⟨rfl,h⟩
   .have i:=Kz f;clear f b n p;go_wp2
    go_ret
    let⟨j,d,J⟩:=i.o;exact⟨lX (kF (.inr (.inr ⟨j,d,J⟩))).symm,K_.refl _⟩
   .have q:Hid (qw give l):=⟨E5,E5,λj d=>by
     apply Decidable.byContradiction;intro T;exact h ⟨j,d,by unfold Gi;omega⟩⟩
    clear h b n p;have K:(Lib.join (texts l) [44]).length<=100*201:=by
     have:=Ka (texts l) 200 (λU A=>by
      simp only[texts,MM] at A;obtain⟨W,L,rfl⟩:=A;obtain⟨j,d,rfl⟩:=MB L;have:=q.o.2.2 j d;simpa[List.getD,d] using this)
     rw[jT] at this;omega
    go_wp2_with fail
    refine (Iz _ a k l G E5 E5 x).mono ?_;rintro e X ⟨⟨m,rfl,r⟩,B⟩;have Y:m.size<=20100:=by have:=congrArg List.length r;simp at this;omega
    have C:Hid ((give++ ⟨#[40]⟩++m++ ⟨#[41]⟩).data.toList=jS give.data.toList (texts l)):=by
     show _=_;rw[fT,fT,fT,r];simp[jS]
    clear r K;have Z:(give++ ⟨#[40]⟩++m++ ⟨#[41]⟩:NL).size<=30000:=by
     have M:(⟨#[40]⟩:NL).size=1:=rfl;have N:(⟨#[41]⟩:NL).size=1:=rfl;simp only[ByteArray.size_append,M,N];omega
    go_wp2_with fail
    generalize (give++ ⟨#[40]⟩++m++ ⟨#[41]⟩:NL)=c at *;refine (sD _ c).mono ?_;rintro e w3 ⟨b,rfl⟩;rcases b.cases with⟨rfl,f⟩|⟨rfl,h⟩
    .have i:Hid (200<c.size):=f;clear f b;go_wp2_with fail
     refine (JI _ c F5).mono ?_;rintro e w4 ⟨rfl,O⟩;have D:=K_.trans B O;have a0:=sS c.data.toList;have E:Hid (nL give l= ⟨(35 :: jI 16 (sumOf c.data.toList).toNat).toArray⟩):=zU q.o C.o i.o;generalize sumOf c.data.toList=V at *;obtain⟨v,rfl⟩:∃v:Nat,V=v:=⟨V.toNat,E5⟩;rw[Int.toNat_natCast] at E;go_wp2_with fail
     refine (D_ _ v E5 (H.kept D)).mono ?_;rintro e w5 ⟨⟨P,rfl,s⟩,Q⟩;have a1:P.size=16:=by have:=congrArg List.length s;rw[iL] at this;simpa using this
     have R:=Kz s;clear s;go_wp2
     go_ret
     exact⟨lX (by rw[E.o];apply Aq;rw[fT,R.o];rfl),K_.trans D Q⟩
    .have i:Hid (¬200<c.size):=h;clear h b;go_wp2
     go_ret
     exact⟨lX (xN q.o C.o (by have:=i.o;omega)).symm,B⟩
