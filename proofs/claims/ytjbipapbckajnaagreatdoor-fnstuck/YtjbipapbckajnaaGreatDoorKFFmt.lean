import Derived.Test.YtjbipapbckajnaaGreatDoorKWGo4
import Derived.Lib.Join
import Derived.Lib.Repeat
set_option maxRecDepth 100000
set_option maxHeartbeats 25600000
namespace Go.Proofs.YtjbipapbckajnaaGreatDoor
open Go.RowKit Go.Proofs.Tryz
theorem lZ(w:Pv)(a:Pt)(J:Nat)(l:List Ps)(K:l.length<=maxLen)(L:∀s∈l,s.size<=maxLen)(p:Strs w a l):
  Calls prog 66 #[.slice a l.length J] w λe w'=>Says e (tV l)/\K_ w w':=by
 unfold maxLen at K;go_enter func66,ntmps66
 go_wp2
 go_loopw [3] (λr wr=>∃k:Nat,k<=l.length/\r= .a k/\K_ w wr/\∀j,j<k->jo (l.getD j ByteArray.empty)/\∀m,m<j->l.getD m ByteArray.empty≠l.getD j ByteArray.empty) (λr _=>l.length-(intOf r).toNat)
 case atStart=>exact⟨0,NS _,rfl,K_.refl _,λj c=>aT c⟩
 case round=>
  obtain⟨k,T,rfl,d,z⟩:=hrel;have A:=Kz z;clear z;by_cases f:k<l.length
  .obtain⟨b,o,rfl,U,B⟩:=p.kept d k f;have C:(l.getD k ByteArray.empty).size<=maxLen:=L _ (by simp[List.getD,f]);obtain⟨s,v⟩:=ai (l.getD k ByteArray.empty);rw[<-v] at B C;have n:=Kz v;clear v;go_wp2_with fail
   refine (nR _ s C).mono ?_;rintro e V ⟨D,rfl⟩;rcases D.cases with⟨rfl,E⟩|⟨rfl,M⟩
   .have N:=Kz E;clear E D;go_wp2
    clear B;go_loopw [4] (λm wr=>∃q:Nat,q<=k/\m= .a q/\K_ w wr/\∀t,t<q->l.getD t ByteArray.empty≠s) (λm _=>k-(intOf m).toNat)
    case atStart=>exact⟨0,NS _,rfl,d,λj c=>aT c⟩
    case round=>
     obtain⟨q,W,rfl,h,F⟩:=hrel;have G:=Kz F;clear F d;by_cases O:q<k
     .obtain⟨P,Q,i,X,R⟩:=p.kept h k f;simp only[OE,Po,and_true] at i;obtain⟨rfl,rfl⟩:=i;obtain⟨P,Q,i,Y,S⟩:=p.kept h q A7;simp only[OE,Po,and_true] at i;obtain⟨rfl,rfl⟩:=i;rw[<-n.o] at R;obtain⟨t,x⟩:=ai (l.getD q ByteArray.empty);rw[<-x] at S;have H:=Kz x;clear x;cases I:(t.toList == s.toList)
      .go_wp2
       go_region
       all_goals
        go_wp2
        go_roundw
        case rel=>
         refine⟨q+1,A7,C8,by repeat (first | apply K_.drew | exact h),λj c=>?_⟩;by_cases e:j=q
         .subst e;rw[<-H.o];exact tZ I
         .exact bC G j A7
        case measure=>simp[intOf];omega
      .go_wp2
       go_region
       all_goals
        go_wp2
        go_ret
        exact⟨Says.no λy=>(y k f).2 q O (by rw[<-H.o,<-n.o];exact qD.1 I),by repeat (first | apply K_.drew | exact h)⟩
     .go_wp2
      go_roundw
      case rel=>
       refine⟨k+1,A7,C8,h,λj c=>?_⟩;by_cases e:j=k
       .subst e;rw[<-n.o];exact⟨N.o,λm Z=>bC G m A7⟩
       .exact bC A j A7
      case measure=>simp[intOf];omega
   .go_wp2
    go_ret
    exact⟨Says.no λy=>M (by rw[n.o];exact (y k f).1),d⟩
  .go_wp2
   go_ret
   exact⟨Says.yes λj c=>bC A j A7,d⟩
variable {l : List Ps}
theorem Strs.take{w:Pv}{a:Pt}(h:Strs w a l)(k:Nat):Strs w a (l.take k):=by
 intro i c;have d:i<l.length:=by simp at c;omega
 have e:i<k:=by simp at c;omega
 obtain⟨b,o,f,j,m⟩:=h i d;refine⟨b,o,f,j, ?_⟩;rw[m];simp[List.getD,e]
theorem Je{k:Nat}(d:k<=l.length){v:Ps}:Has (l.take k) v↔∃i,i<k/\l.getD i ByteArray.empty=v:=by
 unfold Has;constructor
 .rintro⟨i,a,e⟩;have c:i<k:=by simp at a;omega
  exact⟨i,c,by rw[<-e];simp[List.getD,c]⟩
 .rintro⟨i,a,e⟩;exact⟨i,D6,by rw[<-e];simp[List.getD,a]⟩
theorem rq(w:Pv)(a:Pt)(b k:Nat)(l:List Ps)(v:Ps)(j:l.length<=maxLen)(c:k<=l.length)(d:Strs w a l):
  Calls prog 98 #[.slice a k b,.string v] w λe w'=>Says e (∃i,i<k/\l.getD i ByteArray.empty=v)/\w'=w:=by
 have e:(l.take k).length=k:=D6;have:=BV w a b (l.take k) v (by rw[e];omega) (d.take k);rw[e] at this;exact this.mono λe w' ⟨h,f⟩=>⟨h.congr (Je c),f⟩
def Nf(s:Xj):Prop:=s.asks.length<=5/\tV s.asks/\(s.on=0\/(0<=s.on/\s.on<s.asks.length))
def CF(l:List Ps)(j:Nat):Prop:=jo (l.getD j ByteArray.empty)/\∀m,m<j->l.getD m ByteArray.empty≠l.getD j ByteArray.empty
theorem zN(w:Pv)(s:Xj)(q v:Pt)(f x:Nat)(y:s.Fits)(G:Strs w q s.asks)(T:s.asks.length<=f):
  Calls prog 254 #[.agg #[.slice q s.asks.length f,.a s.on,.slice v s.cases.length x,.a s.els,.a s.fall,.bool s.fin,.bool s.bad,.string s.give]] w λe w'=>Says e (Nf s)/\K_ w w':=by
 have M:=y.asks;unfold maxLen at M;have c:K_ w (w.alloc (.cells #[.slice q s.asks.length f,.a s.on,.slice v s.cases.length x,.a s.els,.a s.fall,.bool s.fin,.bool s.bad,.string s.give] 238)):=ah _ _;by_cases U:(s.asks.length:Int)<=5
 .go_enter func254,ntmps254
  go_wp2
  go_loopw [14] (λi wr=>∃k:Nat,k<=s.asks.length/\i= .a k/\K_ (w.alloc (.cells #[.slice q s.asks.length f,.a s.on,.slice v s.cases.length x,.a s.els,.a s.fall,.bool s.fin,.bool s.bad,.string s.give] 238)) wr/\∀j,j<k->CF s.asks j) (λi _=>s.asks.length-(intOf i).toNat)
  case atStart=>exact⟨0,NS _,rfl,K_.refl _,λj z=>aT z⟩
  case round=>
   obtain⟨k,V,rfl,a,H⟩:=hrel;have A:=Kz H;clear H;have N:=a.size;simp only[OC] at N;by_cases r:k<s.asks.length
   .obtain⟨b,o,rfl,O,I⟩:=(G.kept c).kept a k r;have J:(s.asks.getD k ByteArray.empty).size<=maxLen:=y.eZ _ (by simp[List.getD,r]);obtain⟨K,B⟩:=ai (s.asks.getD k ByteArray.empty);rw[<-B] at I J;have t:=Kz B;clear B;go_wp2_with fail
    refine (mP _ K J).mono ?_;rintro e W ⟨d,C⟩;have l:=a.trans C;have D:=(G.kept c).kept l;clear I O;rcases d.cases with⟨rfl,m⟩|⟨rfl,n⟩
    .have P:=Kz m;clear m d a C;obtain⟨E,F⟩:=l.rules;have X:k<=f:=A7;go_wp2_with fail
     refine (rq _ _ f k s.asks K y.asks A7 D).mono ?_;rintro e Y ⟨d,rfl⟩;rcases d.cases with⟨rfl,m⟩|⟨rfl,n⟩
     .have p:=Kz m;clear m d D E F;go_wp2
      go_ret
      exact⟨Says.no λh=>by obtain⟨i,Q,e⟩:=p.o;exact (h.2.1 k r).2 i Q (by rw[e,t.o]),c.trans l⟩
     .have p:=Kz n;clear n d D E F;go_wp2
      go_roundw
      case rel=>
       refine⟨k+1,A7,C8,l,λj z=>?_⟩;by_cases e:j=k
       .subst e;exact⟨by rw[<-t.o];exact P.o,λR S h=>p.o ⟨R,S,by rw[h,t.o]⟩⟩
       .exact bC A j A7
      case measure=>simp[intOf];omega
    .have p:=Kz n;clear n d a C;go_wp2
     go_ret
     exact⟨Says.no λh=>p.o (by rw[t.o];exact (h.2.1 k r).1),c.trans l⟩
   .obtain⟨E,F⟩:=a.rules;have L:Hid (tV s.asks):=λj z=>bC A j A7
    clear A;go_wp2
    .go_ret
     exact⟨(Says.dec _).congr ⟨λh=>⟨A7,L.out,A7⟩,λh=>by have:=h.2.2;omega⟩,c.trans a⟩
    .go_ret
     exact⟨(Says.dec _).congr ⟨λh=>⟨A7,L.out,A7⟩,λh=>by have:=h.2.2;omega⟩,c.trans a⟩
    all_goals
     go_ret
     exact⟨Says.no λh=>by have:=h.2.2;omega,c.trans a⟩
 .go_enter func254,ntmps254
  go_wp2
  go_ret
  exact⟨Says.no λh=>by have:=h.1;omega,c⟩
def MX :List UInt8:=[48,49,50,51,52,53,54,55,56,57,97,98,99,100,101,102]
def o_(n:Nat):UInt8:=MX.getD n 0
def jO :Nat->Nat->List UInt8
 | 0,_=>[]
 | k+1,v=>o_ (v / 16 ^ k % 16) :: jO k v
theorem iK :∀k v,(jO k v).length=k
 | 0,_=>rfl
 | k+1,v=>by simp[jO,iK k v]
theorem Eb :∀(k v i:Nat) (h:i<(jO k v).length),(jO k v)[i]=o_ (v / 16 ^ (k-1-i) % 16)
 | 0,_,_,h=>aT h
 | k+1,v,0,_=>by simp[jO]
 | k+1,v,i+1,h=>by
  have a:i<(jO k v).length:=by simpa[jO] using h
  have e:k+1-1-(i+1)=k-1-i:=A7;rw[e,<-Eb k v i a];simp[jO]
theorem Cx(j v:Nat)(h:v<16 ^ j):∀m,jO (m+j) v=List.replicate m 48++jO j v
 | 0=>A9
 | m+1=>by
  have e:m+1+j= (m+j)+1:=A7;rw[e,jO,Cx j v h m];have c:v / 16 ^ (m+j)=0:=by
   apply Nat.div_eq_of_lt;exact NR h (Nat.pow_le_pow_right A7 A7)
  rw[c]
  rfl
def d_(v:Int)(b:UInt8):Int:=IntKind.u64.wrap (bits BinOp.xor IntKind.u64 v (b.toNat:Int)*1099511628211)
def sumOf(l:List UInt8):Int:=l.foldl d_ 14695981039346656037
theorem AR(b:UInt8):IntKind.u64.wrap (b.toNat:Int)= (b.toNat:Int):=by
 have:=b.toNat_lt;rw[IntKind.wrap_u64];omega
theorem xU(v:Int)(b:UInt8):0<=d_ v b/\d_ v b<18446744073709551616:=by
 unfold d_;rw[IntKind.wrap_u64];omega
theorem pG :∀(l:List UInt8) (v:Int),0<=v/\v<18446744073709551616->0<=l.foldl d_ v/\l.foldl d_ v<18446744073709551616
 | [],_,h=>h
 | b :: r,v,_=>pG r _ (xU v b)
theorem tQ(l:List UInt8):0<=sumOf l/\sumOf l<18446744073709551616:=pG l _ A7
theorem t_(l:List UInt8)(k:Nat)(h:k<l.length):(l.take (k+1)).foldl d_ 14695981039346656037=d_ ((l.take k).foldl d_ 14695981039346656037) (l.getD k 0):=by
 rw[NY h,List.foldl_append];simp[List.getD,h]
def jZ(give:List UInt8)(ts:List (List UInt8)):List UInt8:=give++40 :: (Lib.join ts [44]++ [41])
def nu(give:List UInt8)(ts:List (List UInt8)):List UInt8:=
 if 30<give.length\/100<ts.length\/(∃t∈ts,200<t.length) then []
 else if (jZ give ts).length<=200 then jZ give ts
 else 35 :: jO 16 (sumOf (jZ give ts)).toNat
theorem LQ(ts:List (List UInt8))(n:Nat)(h:∀t∈ts,t.length<=n):(Lib.join ts [44]).length<=ts.length*(n+1):=by
 cases ts with
 | nil=>simp[Lib.join_nil]
 | cons x r=>
  rw[Lib.join_cons,OD,Lib.joinTail_length];have d:=h x A9;have e:Lib.lens r<=r.length*n:=by
   have:∀(q:List (List UInt8)),(∀t∈q,t.length<=n)->Lib.lens q<=q.length*n:=by
    intro q
    induction q with
    | nil=>intro _;simp[Lib.lens]
    | cons y q ih=>
     intro b;have f:=b y A9;have c:=ih (λt a=>b t (by simp[a]));simp only[Lib.lens,List.map_cons,List.sum_cons,OH,Nat.succ_mul] at c⊢;omega
   exact this r (λt a=>h t (by simp[a]))
  simp only[OH,List.length_nil,Ow,Nat.one_mul];have:(r.length+1)*(n+1)=r.length*n+r.length+n+1:=by rw[Nat.add_mul,Nat.mul_add];omega
  omega
theorem qg(ts:List (List UInt8))(k:Nat)(h:k<ts.length):
  Lib.join (ts.take (k+1)) [44]=Lib.join (ts.take k) [44]++ ((if 0<k then [44] else [])++ts.getD k []):=by
 cases ts with
 | nil=>simp at h
 | cons x r=>
  cases k with
  | zero=>simp[Lib.join_one,Lib.join_nil]
  | succ k=>
   have b:k<r.length:=by simpa using h
   rw[List.take_succ_cons,List.take_succ_cons,Lib.join_cons,Lib.join_cons,Lib.joinTail_take_succ [44] r k (r.getD k []) (by simp[List.getD,b])];simp[List.append_assoc]
def texts(l:List Ps):List (List UInt8):=l.map (·.data.toList)
def jl(give:Ps)(l:List Ps):Ps:=⟨(nu give.data.toList (texts l)).toArray⟩
theorem j_(l:List Ps):(texts l).length=l.length:=by simp[texts]
theorem yH(l:List Ps)(k:Nat)(h:k<l.length):(texts l).getD k []= (l.getD k ByteArray.empty).data.toList:=by simp[texts,List.getD,h]
variable {give : Ps}
theorem kP(h:30<give.size\/100<l.length\/∃i,i<l.length/\200<(l.getD i ByteArray.empty).size):jl give l=ByteArray.empty:=by
 unfold jl nu;rw[Pe]
 .rfl
 .rcases h with h|h|⟨i,b,c⟩
  .left;simpa using h
  .right;left;simpa[texts] using h
  .right;right
   refine⟨(l.getD i ByteArray.empty).data.toList, ?_,by simpa using c⟩;simp[texts,List.getD,b];exact⟨_,Oa b,rfl⟩
def qJ(give:Ps)(l:List Ps):Prop:=give.size<=30/\l.length<=100/\∀i,i<l.length->(l.getD i ByteArray.empty).size<=200
theorem qJ.not(h:qJ give l):¬(30<give.data.toList.length\/100<(texts l).length\/(∃t∈texts l,200<t.length)):=by
 rintro (g|g|⟨t,b,g⟩)
 .have:=h.1;simp at g;omega
 .have:=h.2.1;simp[texts] at g;omega
 .simp only[texts,Oq] at b;obtain⟨x,d,rfl⟩:=b;obtain⟨i,c,rfl⟩:=Oc d;have:=h.2.2 i c;simp[List.getD,c] at this g;omega
variable {b : Ps}
theorem yG(h:qJ give l)(a:b.data.toList=jZ give.data.toList (texts l))(d:b.size<=200):jl give l=b:=by
 unfold jl nu;rw[Pf h.not,Pe (by rw[<-a];simpa using d),<-a]
theorem AL(h:qJ give l)(a:b.data.toList=jZ give.data.toList (texts l))(d:200<b.size):jl give l= ⟨(35 :: jO 16 (sumOf b.data.toList).toNat).toArray⟩:=by
 unfold jl nu;rw[Pf h.not,Pf (by rw[<-a];simp;omega),<-a]
theorem Br{a:Ps}(h:a.data.toList=b.data.toList):a=b:=by
 cases a;cases b;simp at h;simp[h]
theorem f_(a b:Ps):(a++b).data.toList=a.data.toList++b.data.toList:=by simp[ByteArray.data_append]
theorem mf{a:Ps}(h:a=b):Ending.returned (.string a)= .returned (.string b):=by rw[h]
theorem Lp(n:Nat)(h:n<16):(((⟨#[48,49,50,51,52,53,54,55,56,57,97,98,99,100,101,102]⟩:Ps).extract n 16).extract 0 1).data.toList=[o_ n]:=by
 have:∀m:Fin 16,(((⟨#[48,49,50,51,52,53,54,55,56,57,97,98,99,100,101,102]⟩:Ps).extract m.val 16).extract 0 1).data.toList=[o_ m.val]:=by decide+kernel
 exact this ⟨n,h⟩
structure Qz where
 name:Ps
 over:Bool
 fail:Bool
 text:Ps
 at':Int
 Zj:Int
 texts:List Ps
def dM(l:List Ps)(m:Ps):Bool:=l.any λx=>decide (x=m)
theorem bT{l:List Ps}{m:Ps}:dM l m=true↔m∈l:=by simp[dM]
def Qz.fresh(n:Ps):Qz:=⟨n,false,false,⟨#[]⟩,0,0,[]⟩
def rY(n:Ps):Ps:=(⟨#[110,111,32]⟩:Ps)++n
def gX :Ps:=⟨#[115,112,101,110,116]⟩
abbrev Env :=Ps->Option Qz
abbrev bR :=Ps->Option eY
variable {n : Ps} {σ : Env} {r : Qz}
section
variable (W : bR)
def aP(σ:Env)(n:Ps):Option Xq:=
 match W n with
 | none=>some ⟨true,rY n⟩
 | some _=>match σ n with
  | some r=>if r.over=true then some ⟨r.fail,r.text⟩ else none
  | none=>none
def Yq(σ:Env):List Ps->Option (List Xq)
 | []=>some []
 | a :: l=>match aP W σ a with
  | none=>none
  | some x=>match Yq σ l with
   | none=>none
   | some y=>some (x :: y)
def stepOf(a:eY)(i:Int):Xj:=a.steps.getD i.toNat Xj.zero
def aW(xs:List Xq):List Ps:=(xs.filter λx=>!x.fail).map (·.text)
def oU :List Xq->Nat->Option Nat
 | [],_=>none
 | x :: l,i=>if x.fail=true then some i else oU l (i+1)
def pY(t:Ps)(els:Int):List bS->Int
 | []=>els
 | c :: l=>if c.text=t then c.goto else pY t els l
def bQ(s:Xj)(xs:List Xq):b_:=
 match oU xs 0 with
 | some i=>if s.fall= -1 then ⟨0,true,0,jY s i⟩ else ⟨0,false,s.fall,⟨#[]⟩⟩
 | none=>⟨0,false,if xs.length=0 then s.els else pY (mJ xs s.on) s.els s.cases,⟨#[]⟩⟩
def bK(a:eY)(r:Qz):Qz×List Ps:=
 (if (stepOf a r.at').fin=true then {r with Zj:=r.Zj+1,over:=true,fail:=(stepOf a r.at').bad,text:=jl (stepOf a r.at').give r.texts} else {r with Zj:=r.Zj+1},(stepOf a r.at').asks)
def Y_(σ:Env)(r:Qz):Qz×List Ps:=
 match W r.name with
 | none=>(r,[])
 | some a=>
  if r.Zj=0 then bK a r else
  match Yq W σ (stepOf a r.at').asks with
  | none=>(r,[])
  | some xs=>
   if r.Zj=20 then ({r with over:=true,fail:=true,text:=gX},[]) else
   if (bQ (stepOf a r.at') xs).over=true then ({r with Zj:=r.Zj+1,over:=true,fail:=true,text:=(bQ (stepOf a r.at') xs).text},[]) else
   bK a {r with texts:=r.texts++aW xs,at':=(bQ (stepOf a r.at') xs).at'}
def aZ(σ:Env)(r:Qz):Prop:=r.over=false/\(r.Zj=0\/∃a xs,W r.name=some a/\Yq W σ (stepOf a r.at').asks=some xs)
def bi(σ:Env)(n:Ps):Prop:=∃r,σ n=some r/\aZ W σ r
def doX(σ:Env)(n:Ps):Env:=
 match σ n with
 | none=>σ
 | some r=>λm=>if m=n then some (Y_ W σ r).1 else
  match σ m with
  | some x=>some x
  | none=>if dM (Y_ W σ r).2 m=true/\(W m).isSome=true then some (Qz.fresh m) else none
variable {W}
theorem ed(h:σ n=some r)(k:Ps):doX W σ n k=if k=n then some (Y_ W σ r).1 else match σ k with | some x=>some x | none=>if dM (Y_ W σ r).2 k=true/\(W k).isSome=true then some (Qz.fresh k) else none:=by
 unfold doX;rw[h]
theorem kJ{m:Ps}(h:m≠n){x:Qz}(a:σ m=some x):doX W σ n m=some x:=by
 unfold doX;cases c:σ n with
 | none=>simpa using a
 | some r=>simp[h,a]
theorem je(h:σ n=some r):doX W σ n n=some (Y_ W σ r).1:=by
 unfold doX;simp[h]
theorem EZ{a:Ps}{x:Xq}(f:bi W σ n)(h:aP W σ a=some x):aP W (doX W σ n) a=some x:=by
 unfold aP at h⊢;cases c:W a with
 | none=>simpa[c] using h
 | some act=>
  simp only[c] at h⊢;cases b:σ a with
  | none=>simp[b] at h
  | some r=>
   simp only[b] at h;by_cases e:a=n
   .subst e;obtain⟨j,d,i⟩:=f;rw[b] at d;cases d;rw[Pf (by rw[i.1];simp)] at h;cases h
   .rw[kJ e b];exact h
theorem lu(d:bi W σ n):∀{l:List Ps} {xs:List Xq},Yq W σ l=some xs->Yq W (doX W σ n) l=some xs
 | [],_,h=>h
 | a :: l,xs,h=>by
  unfold Yq at h⊢;cases b:aP W σ a with
  | none=>simp[b] at h
  | some x=>
   simp only[b] at h;cases c:Yq W σ l with
   | none=>simp[c] at h
   | some y=>
    simp only[c] at h;rw[EZ d b,lu d c];exact h
theorem aZ.mono(b:bi W σ n)(h:aZ W σ r):aZ W (doX W σ n) r:=
 ⟨h.1,h.2.imp id λ⟨a,d,e,f⟩=>⟨a,d,e,lu b f⟩⟩
theorem pF(e:bi W σ n)(h:aZ W σ r):Y_ W (doX W σ n) r=Y_ W σ r:=by
 unfold Y_;cases f:W r.name with
 | none=>rfl
 | some a=>
  simp only;by_cases c:r.Zj=0
  .simp[c]
  .rcases h.2 with b|⟨i,j,b,d⟩
   .exact Pg b c
   .rw[f] at b;cases b;simp only[c,if_false];rw[lu e d,d]
theorem tY :qh (bi W) (doX W):=by
 intro σ n m b c f;obtain⟨r,d,l⟩:=c;obtain⟨q,e,h⟩:=f;have c:bi W σ n:=⟨r,d,l⟩;have f:bi W σ m:=⟨q,e,h⟩;have p:doX W σ n m=some q:=kJ (Ne.symm b) e;have t:doX W σ m n=some r:=kJ b d;refine⟨⟨q,p,h.mono c⟩, ?_⟩;have v:Y_ W (doX W σ n) q=Y_ W σ q:=pF c h;have w:Y_ W (doX W σ m) r=Y_ W σ r:=pF f l
 funext k
 have L:doX W (doX W σ n) m k=if k=m then some (Y_ W σ q).1 else match doX W σ n k with | some x=>some x | none=>if dM (Y_ W σ q).2 k=true/\(W k).isSome=true then some (Qz.fresh k) else none:=by
  rw[ed p,v]
 have R:doX W (doX W σ m) n k=if k=n then some (Y_ W σ r).1 else match doX W σ m k with | some x=>some x | none=>if dM (Y_ W σ r).2 k=true/\(W k).isSome=true then some (Qz.fresh k) else none:=by
  rw[ed t,w]
 rw[L,R];by_cases i:k=m
 .subst i;rw[Pe rfl,Pf (Ne.symm b),je e]
 .by_cases j:k=n
  .subst j;rw[Pf b,Pe rfl,je d]
  .rw[Pf i,Pf j];have y:doX W σ n k=match σ k with | some x=>some x | none=>if dM (Y_ W σ r).2 k=true/\(W k).isSome=true then some (Qz.fresh k) else none:=by
    rw[ed d,Pf j]
   have z:doX W σ m k=match σ k with | some x=>some x | none=>if dM (Y_ W σ q).2 k=true/\(W k).isSome=true then some (Qz.fresh k) else none:=by
    rw[ed e,Pf i]
   rw[y,z];cases A:σ k with
   | some x=>rfl
   | none=>
    simp only;by_cases s:dM (Y_ W σ r).2 k=true/\(W k).isSome=true
    .rw[Pe s];by_cases a:dM (Y_ W σ q).2 k=true/\(W k).isSome=true
     .rw[Pe a]
     .rw[Pf a]
    .rw[Pf s];by_cases a:dM (Y_ W σ q).2 k=true/\(W k).isSome=true
     .rw[Pe a]
     .rw[Pf a]
def Behind(p:Qz->Qz->Prop)(G:Env)(σ:Env)(n:Ps):Prop:=bi W σ n/\∃r g,σ n=some r/\G n=some g/\p r g
theorem jS(p:Qz->Qz->Prop)(G:Env):qh (Behind (W:=W) p G) (doX W):=by
 intro σ n m a c b;obtain⟨d,e⟩:=tY σ n m a c.1 b.1;obtain⟨q,g,f,h,i⟩:=b.2;exact⟨⟨d,q,g,kJ (Ne.symm a) f,h,i⟩,e⟩
theorem fP(i:aZ W σ r)(d:(W r.name).isSome=true):((Y_ W σ r).1.Zj=r.Zj+1)\/(r.Zj=20/\(Y_ W σ r).1.Zj=20/\(Y_ W σ r).1.over=true):=by
 unfold Y_;cases e:W r.name with
 | none=>rw[e] at d;cases d
 | some a=>
  simp only;by_cases b:r.Zj=0
  .left
   simp only[b,if_true];unfold bK
   split <;> simp[b]
  .rcases i.2 with c|⟨l,j,c,k⟩
   .exact Pg c b
   .rw[e] at c;cases c;simp only[b,if_false,k];by_cases f:r.Zj=20
    .right
     simp[f]
    .left
     simp only[f,if_false];by_cases h:(bQ (stepOf a r.at') j).over=true
     .simp[h]
     .simp only[h];unfold bK;simp only[Bool.false_eq_true,if_false]
      split <;> simp
theorem bP :(Y_ W σ r).1.name=r.name:=by
 unfold Y_ bK
 repeat' split
 all_goals rfl
end
variable {n : Ps} {G σ : Env}
section
variable {W : bR}
structure Qz.Ok (W:bR) (n:Ps) (r:Qz):Prop where
 name:r.name=n
 web:(W n).isSome=true
 lo:0<=r.Zj
 hi:r.Zj<=20
def WfX(W:bR)(σ:Env):Prop:=∀n r,σ n=some r->r.Ok W n
theorem GI{r:Qz}(h:r.Ok W n)(c:aZ W σ r):(Y_ W σ r).1.Ok W n:=by
 have d:=fP c (by rw[h.name];exact h.web);refine⟨by rw[bP];exact h.name,h.web, ?_, ?_⟩
 .have:=h.lo;rcases d with e | ⟨_,e,_⟩ <;> omega
 .rcases d with e|⟨_,e,_⟩
  .have:=h.hi;by_cases f:r.Zj=20
   .exfalso
    have k:(Y_ W σ r).1.Zj=r.Zj:=by
     unfold Y_;cases i:W r.name with
     | none=>rfl
     | some a=>
      simp only;rw[Pf A7];rcases c.2 with b|⟨l,m,b,j⟩
      .omega
      .rw[i] at b;cases b;simp[j,f]
    omega
   .omega
  .omega
theorem BQ(h:WfX W σ)(d:bi W σ n):WfX W (doX W σ n):=by
 intro m x a;obtain⟨r,c,f⟩:=d;rw[ed c] at a;by_cases e:m=n
 .rw[Pe e] at a;cases a;rw[e];exact GI (h n r c) f
 .rw[Pf e] at a;cases b:σ m with
  | some y=>
   rw[b] at a;simp only[OE] at a;subst a;exact h m y b
  | none=>
   rw[b] at a;simp only at a
   split at a
   .rename_i hc2
    cases a;exact⟨rfl,hc2.2,Int.le_refl _,by show (0:Int)<=20;omega⟩
   .cases a
def fI(r g:Qz):Prop:=r.Zj<g.Zj\/(r.Zj=g.Zj/\g.over=true/\20<=r.Zj)
def dO(r g:Qz):Prop:=g.over=true\/r.Zj<g.Zj
theorem AJ{r g:Qz}(h:fI r g):dO r g:=by
 rcases h with h|⟨_,h,_⟩
 .exact .inr h
 .exact .inl h
theorem vB{p:Qz->Qz->Prop}{τ :Env}{k:Nat}(h:bB (Behind (W:=W) p G) (doX W) σ τ k){r:Qz}(a:σ n=some r)(c:∀g,G n=some g->¬p r g): τ n=some r:=by
 induction h with
 | here s=>exact a
 | step s t i k hi _ ih=>
  refine ih ?_;by_cases e:n=i
  .subst e;obtain⟨j,g,b,d,f⟩:=hi.2;rw[a] at b;cases b;exact Pg f (c g d)
  .exact kJ e a
theorem sM{p:Qz->Qz->Prop}{τ :Env}{k:Nat}(h:bB (Behind (W:=W) p G) (doX W) σ τ k)(b:WfX W σ){r:Qz}(a:σ n=some r):∃q, τ n=some q/\r.Zj<=q.Zj:=by
 induction h generalizing r with
 | here s=>exact⟨r,a,Int.le_refl _⟩
 | step s t i k hi _ ih=>
  have c:=BQ b hi.1;by_cases e:n=i
  .subst e;obtain⟨m,d,j⟩:=hi.1;rw[a] at d;cases d;obtain⟨q,l,v⟩:=ih c (je a);have f:=b n r a;refine⟨q,l, ?_⟩;rcases fP j (by rw[f.name];exact f.web) with e | ⟨e1,e,_⟩ <;> omega
  .exact ih c (kJ e a)
theorem bB.rest{α ι :Type}{ready:α-> ι ->Prop}{step:α-> ι ->α}(d:qh ready step):∀{j k:Nat} {s t u:α},bB ready step s t j->bB ready step s u k->AtEnd ready u->∃m,bB ready step t u m:=by
 intro j
 induction j with
 | zero=>intro k s t u h g _;cases h;exact⟨k,g⟩
 | succ j ih=>
  intro k s t u h g c;cases h with
  | step _ _ i _ hi hr=>
   obtain⟨m,_,e⟩:=g.first d c hi
   exact ih hr e c
theorem EN{e a:Env}{k:Nat}(t:bB (Behind (W:=W) fI G) (doX W) e a k)(v:AtEnd (Behind (W:=W) fI G) a)(w:a=G):∀{j:Nat} {σ τ :Env} {i:Nat},bB (Behind (W:=W) fI G) (doX W) e σ i->bB (Behind (W:=W) dO G) (doX W) σ τ j->bB (Behind (W:=W) fI G) (doX W) σ τ j:=by
 intro j
 induction j with
 | zero=>intro σ τ i _ h;cases h;exact .here _
 | succ j ih=>
  intro σ τ i f h;cases h with
  | step _ _ n _ hn hr=>
   have l:Behind (W:=W) fI G σ n:=by
    obtain⟨m,r,g,b,c,x⟩:=hn;refine⟨m,r,g,b,c, ?_⟩;by_cases d:fI r g
    .exact d
    .exfalso
     obtain⟨A,y⟩:=bB.rest (jS fI G) f t v;have p:=vB y b (λB q=>by rw[c] at q;cases q;exact d);rw[w,c] at p;cases p;obtain⟨C,s,z⟩:=m;rw[b] at s;cases s;rcases x with h | h
     .rw[z.1] at h;cases h
     .exact d (.inl h)
   exact .step _ _ n _ l (ih (f.snoc l) hr)
theorem w_{τ :Env}(p: τ =G):∀{j:Nat} {σ:Env},WfX W σ->bB (Behind (W:=W) dO G) (doX W) σ τ j->bB (Behind (W:=W) fI G) (doX W) σ τ j:=by
 intro j
 induction j with
 | zero=>intro σ _ h;cases h;exact .here _
 | succ j ih=>
  intro σ c h;cases h with
  | step _ _ n _ hn hr=>
   have d:=BQ c hn.1;have q:Behind (W:=W) fI G σ n:=by
    obtain⟨f,r,g,b,i,s⟩:=hn;refine⟨f,r,g,b,i, ?_⟩;by_cases a:fI r g
    .exact a
    .exfalso
     obtain⟨w,k,t⟩:=f;rw[b] at k;cases k;obtain⟨x,l,y⟩:=sM hr d (je b);rw[p,i] at l;cases l;have m:=c n r b;rcases s with h|h
     .rcases fP t (by rw[m.name];exact m.web) with e|⟨e1,e,_⟩
      .exact a (.inl A7)
      .by_cases v:r.Zj=g.Zj
       .exact a (.inr ⟨v,h,A7⟩)
       .exact a (.inl A7)
     .exact a (.inl h)
   exact .step _ _ n _ q (ih d hr)
theorem IK{e a c:Env}{k j:Nat}(n:WfX W e)(f:bB (Behind (W:=W) fI G) (doX W) e a k)(h:AtEnd (Behind (W:=W) fI G) a)(i:bB (Behind (W:=W) dO G) (doX W) e c j)(p:AtEnd (Behind (W:=W) dO G) c):(a=G↔c=G)/\(a=G->c=a):=by
 have l:AtEnd (Behind (W:=W) fI G) c:=λq m=>p q ⟨m.1,by obtain⟨r,g,d,s,t⟩:=m.2;exact⟨r,g,d,s,AJ t⟩⟩
 have d:a=G->c=a:=λb=>(f.unique (jS _ _) h (EN f h b (.here _) i) l).symm
 refine⟨⟨λb=>(d b).trans b,λb=>?_⟩,d⟩;have:=f.unique (jS _ _) h (w_ b n i) l;rw[this];exact b
def mi :Option Qz->Nat
 | none=>23
 | some r=>if r.over=true then 0 else 22-r.Zj.toNat
def cZ(Kj:List Ps)(σ:Env):Nat:=(Kj.map λn=>mi (σ n)).sum
theorem Ky{m:Ps}(d:WfX W σ)(f:bi W σ n):mi (doX W σ n m)<=mi (σ m)/\(m=n->mi (doX W σ n m)<mi (σ m)):=by
 obtain⟨r,a,c⟩:=f;have b:=d n r a;by_cases e:m=n
 .subst e;have:mi (doX W σ m m)<mi (σ m):=by
   rw[je a,a];have j:=b.lo;have k:=b.hi;show (if (Y_ W σ r).1.over=true then 0 else 22-(Y_ W σ r).1.Zj.toNat)<(if r.over=true then 0 else 22-r.Zj.toNat);have h:(if r.over=true then 0 else 22-r.Zj.toNat)=22-r.Zj.toNat:=by rw[c.1];rfl
   rw[h];rcases fP c (by rw[b.name];exact b.web) with e|⟨e1,e,eo⟩
   .split
    .omega
    .rw[e];omega
   .rw[Pe eo];omega
  exact⟨Nat.le_of_lt this,λ_=>this⟩
 .refine⟨?_,λi=>Pg i e⟩;rw[ed a,Pf e];cases l:σ m with
  | some x=>exact NQ _
  | none=>
   simp only
   split
   .show 22-0<=23;omega
   .exact NQ _
theorem kK(a:WfX W σ)(b:bi W σ n):∀(Kj:List Ps),cZ Kj (doX W σ n)<=cZ Kj σ/\(n∈Kj->cZ Kj (doX W σ n)<cZ Kj σ)
 | []=>⟨NQ _,λh=>by cases h⟩
 | m :: l=>by
  obtain⟨i,c⟩:=kK a b l;obtain⟨j,d⟩:=Ky (m:=m) a b;have e:cZ (m :: l) (doX W σ n)=mi (doX W σ n m)+cZ l (doX W σ n):=by simp[cZ]
  have f:cZ (m :: l) σ=mi (σ m)+cZ l σ:=by simp[cZ]
  rw[e,f];refine⟨A7,λh=>?_⟩;rcases OL.1 h with h | h
  .have:=d h.symm;omega
  .have:=c h;omega
end
theorem yD(w:Pv)(give:Ps)(a:Pt)(I:Nat)(l:List Ps)(J:give.size<=maxLen)(K:l.length<=maxLen)(A:∀s∈l,s.size<=maxLen)(L:Strs w a l):
  Calls prog 125 #[.string give,.slice a l.length I] w λe w'=>e= .returned (.string (jl give l))/\K_ w w':=by
 unfold maxLen at J K A;by_cases Z:(give.size:Int)<=30
 .by_cases h2:(l.length:Int)<=100
  .go_enter func125,ntmps125
   go_wp2
   go_loop [5,6] (λx i=>∃(k:Nat) (b:Ps),k<=l.length/\i= .a k/\x= .string b/\b.data.toList=give.data.toList++40 :: Lib.join ((texts l).take k) [44]/\(∀j,j<k->(l.getD j ByteArray.empty).size<=200)/\b.size<=31+k*201) (λ_ i=>l.length-(intOf i).toNat)
   case atStart=>exact⟨0,_,NS _,rfl,rfl,by rw[f_];simp[Lib.join_nil],λj p=>aT p,by have e:(⟨#[40]⟩:Ps).size=1:=rfl;rw[ByteArray.size_append,e];omega⟩
   case round=>
    obtain⟨k,b,hk,rfl,rfl,q,p,B⟩:=hrel;have⟨f,y⟩:=aH q p;clear q p;by_cases h:k<l.length
    .obtain⟨g,o,rfl,a0,hc⟩:=L k h;have a1:=A (l.getD k ByteArray.empty) (by simp[List.getD,h]);generalize C:l.getD k ByteArray.empty=M at *;have r:=Kz C;clear C;by_cases h3:(M.size:Int)<=200
     .by_cases h4:(0:Int)<k
      .go_wp2
       go_round
       case rel=>
        have t:=qg (texts l) k (by rw[j_];exact h);rw[yH l k h,r.o,Pe A7] at t;refine⟨k+1,_,A7,C8,rfl, ?_,λj p=>?_, ?_⟩
        .rw[t];simp only[f_,f.o];simp
        .by_cases e:j=k
         .subst e;rw[r.o];omega
         .exact y.o j A7
        .simp only[ByteArray.size_append];have:(⟨#[44]⟩:Ps).size=1:=rfl;omega
       case measure=>simp[intOf];omega
      .go_wp2
       go_round
       case rel=>
        have t:=qg (texts l) k (by rw[j_];exact h);rw[yH l k h,r.o,Pf A7] at t;refine⟨k+1,_,A7,C8,rfl, ?_,λj p=>?_, ?_⟩
        .rw[t];simp only[f_,f.o];simp
        .by_cases e:j=k
         .subst e;rw[r.o];omega
         .exact y.o j A7
        .simp only[ByteArray.size_append];have:(⟨#[44]⟩:Ps).size=1:=rfl;omega
       case measure=>simp[intOf];omega
     .go_wp2
      go_ret
      exact⟨mf (kP (.inr (.inr ⟨k,h,by rw[r.o];omega⟩))).symm,K_.refl _⟩
    .have N:k=l.length:=A7;have D:Hid ((b++ ⟨#[41]⟩).data.toList=jZ give.data.toList (texts l)):=by
      show _=_;rw[f_,f.o,N,<-j_,Ox];simp[jZ]
     have E:Hid (qJ give l):=⟨A7,A7,λi hi=>y.o i A7⟩;have O:(b++ ⟨#[41]⟩:Ps).size=b.size+1:=by rw[ByteArray.size_append];rfl
     by_cases P:(b.size:Int)+1<=200
     .go_wp2
      go_ret
      exact⟨mf (yG E.o D.o A7).symm,K_.refl _⟩
     .go_wp2
      have a2:(b++ ⟨#[41]⟩:Ps).size<=100000:=A7;have Q:200<(b++ ⟨#[41]⟩:Ps).size:=A7;clear O P B f;generalize (b++ ⟨#[41]⟩:Ps)=c at *;go_loop [7,8] (λv i=>∃k:Nat,k<=c.size/\i= .a k/\v= .int .u64 ((c.data.toList.take k).foldl d_ 14695981039346656037)) (λ_ i=>c.size-(intOf i).toNat)
      case atStart=>exact⟨0,NS _,rfl,rfl⟩
      case round=>
       obtain⟨m,hm,rfl,rfl⟩:=hrel;by_cases R:m<c.size
       .have F:m<c.data.toList.length:=by simpa using R
        have S:Hid ((c.data.toList.take (m+1)).foldl d_ 14695981039346656037=d_ ((c.data.toList.take m).foldl d_ 14695981039346656037) c[m]):=by
         have e:=t_ c.data.toList m F;rw[List.getD_eq_getElem?_getD,NV F,Ph] at e;exact e
        generalize (c.data.toList.take m).foldl d_ 14695981039346656037=v at *;go_wp2
        go_round
        case rel=>exact⟨m+1,A7,C8,by rw[S.o];rw[AR];rfl⟩
        case measure=>simp[intOf];omega
       .have T:m=c.data.toList.length:=D6;subst T;rw[Ox];have U:=tQ c.data.toList;have z:Hid (jl give l= ⟨(35 :: jO 16 (sumOf c.data.toList).toNat).toArray⟩):=AL E.o D.o Q;unfold sumOf at U z;generalize List.foldl d_ 14695981039346656037 c.data.toList=V at *;obtain⟨v,rfl⟩:∃v:Nat,V=v:=⟨V.toNat,A7⟩;rw[Int.toNat_natCast] at z;go_wp2
        go_loop [7,9,10] (λx d i=>∃(k:Nat) (b:Ps),k<=16/\i= .a k/\x= .int .u64 ((v / 16 ^ k:Nat):Int)/\d= .string b/\b.data.toList=jO k v) (λ_ _ i=>16-(intOf i).toNat)
        case atStart=>exact⟨0,ByteArray.empty,NS _,rfl,A9,rfl,rfl⟩
        case round=>
         obtain⟨n,b,hn,rfl,rfl,rfl,q⟩:=hrel;have f:=Kz q;clear q;have B:b.size<=16:=by have:=congrArg List.length f.o;rw[iK] at this;simp at this;omega
         by_cases a3:(n:Int)<16
         .have W:(v / 16 ^ n) % 16<16:=Nat.mod_lt _ A7;have G:v / 16 ^ n / 16=v / 16 ^ (n+1):=by rw[Nat.div_div_eq_div_mul,Nat.pow_succ]
          have X:=Kz G;clear G;have a4:v / 16 ^ n<18446744073709551616:=Nat.lt_of_le_of_lt (Nat.div_le_self _ _) A7;generalize H:v / 16 ^ n=u at *;have Y:=Kz H;clear H;go_wp2
          go_round
          case rel=>
           refine⟨n+1,_,A7,C8,by rw[<-X.o];simp,rfl, ?_⟩;rw[f_,Lp _ W,f.o,jO,Y.o]
           rfl
          case measure=>simp[intOf];omega
         .go_wp2
          go_ret
          obtain rfl:n=16:=A7;exact⟨mf (by rw[z.o];apply Br;rw[f_,f.o];rfl),K_.refl _⟩
  .go_enter func125,ntmps125
   go_wp2
   go_ret
   exact⟨by rw[kP A7];rfl,K_.refl _⟩
 .go_enter func125,ntmps125
  go_wp2
  go_ret
  exact⟨by rw[kP A7];rfl,K_.refl _⟩
def oI(w:Pv):Prop:=3<w.heap.size/\w.cell? ⟨3,15,none⟩=some (.int .u8 4)
theorem oI.kept{w w':Pv}(h:oI w)(k:K_ w w'):oI w':=⟨NR h.1 k.size,by rw[k.cell h.1];exact h.2⟩
theorem LA(w:Pv)(h:oI w):Calls prog 234 #[.int .u64 16] w λe w'=>e= .returned (.a 4)/\w'=w:=by
 have b:IntKind.u64.wrap (bits BinOp.and IntKind.u64 16 (IntKind.u64.wrap (-16))*285870213051353865) / 288230376151711744=15:=by decide+kernel
 have c:=h.2;go_enter func234,ntmps234
 go_wp2_with (simp only[b])
 go_ret
 exact⟨rfl,rfl⟩
theorem NA(w:Pv)(h:oI w):Calls prog 232 #[.int .u64 16] w λe w'=>e= .returned (.a 4)/\w'=w:=by
 go_enter func232,ntmps232
 go_wp2_with fail
 refine (LA _ h).mono ?_;rintro e b ⟨rfl,rfl⟩;go_wp2
 go_ret
 exact⟨rfl,rfl⟩
