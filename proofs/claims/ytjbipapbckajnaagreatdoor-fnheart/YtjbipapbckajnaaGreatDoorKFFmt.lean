import Derived.Test.YtjbipapbckajnaaGreatDoorKWGo4
import Derived.Lib.Join
import Derived.Lib.Repeat
import Derived.Test.YtjbipapbckajnaaGreatDoorKDStep
import Derived.Deep.CutRange
set_option maxRecDepth 100000
set_option maxHeartbeats 25600000
namespace Go.Proofs.YtjbipapbckajnaaGreatDoor
open Go.RowKit Go.Proofs.Tryz
theorem Ao(w:NI)(asks:Nat)(on:Int)(cases:Nat)(els fall:Int)(bad:Bool)(give:NG)(j k:NH)(l m:Nat)(n:Int)(p:asks<=maxLen)(h2:cases<=maxLen)(q:give.size<=maxLen):
  Calls prog 120 #[.agg #[.slice j asks l,.a on,.slice k cases m,.a els,.a fall,.bool true,.bool bad,.string give],.a n] w
   λe w'=>Says e (asks=0/\on=0/\cases=0/\els=0/\fall=0/\give.size<=30)/\K_ w w':=by
 unfold maxLen at p h2 q;have a:K_ w (w.alloc (.cells #[.slice j asks l,.a on,.slice k cases m,.a els,.a fall,.bool true,.bool bad,.string give] 176)):=ah _ _;cases b:((asks:Int) == 0)
 .go_enter func120,ntmps120
  go_wp2
  go_ret
  exact⟨Says.no λh=>by simp at b;omega,a⟩
 .obtain rfl:asks=0:=by simp at b;omega
  clear b;cases c:(on == 0)
  .go_enter func120,ntmps120
   go_wp2
   go_ret
   exact⟨Says.no λh=>by simp at c;omega,a⟩
  .obtain rfl:on=0:=by simpa using c
   clear c;cases d:((cases:Int) == 0)
   .go_enter func120,ntmps120
    go_wp2
    go_ret
    exact⟨Says.no λh=>by simp at d;omega,a⟩
   .obtain rfl:cases=0:=by simp at d;omega
    clear d;cases f:(els == 0)
    .go_enter func120,ntmps120
     go_wp2
     go_ret
     exact⟨Says.no λh=>by simp at f;omega,a⟩
    .obtain rfl:els=0:=by simpa using f
     clear f;cases i:(fall == 0)
     .go_enter func120,ntmps120
      go_wp2
      go_ret
      exact⟨Says.no λh=>by simp at i;omega,a⟩
     .obtain rfl:fall=0:=by simpa using i
      clear i;by_cases r:(give.size:Int)<=30
      .go_enter func120,ntmps120
       go_wp2
       go_ret
       exact⟨Says.yes F6,a⟩
      .go_enter func120,ntmps120
       go_wp2
       go_ret
       exact⟨Says.no λh=>E5,a⟩
theorem xH(w:NI)(s:Xq)(f i:NH)(j l:Nat)(n:Int)(c:s.Fits)(x:0<=n/\n<=20)
  (m:Strs w f s.asks) (p:kP w i s.cases) (y:s.fin=false) (z:Hid (¬u_ s n)):
  Calls prog 120 #[.agg #[.slice f s.asks.length j,.a s.on,.slice i s.cases.length l,.a s.els,.a s.fall,.bool s.fin,.bool s.bad,.string s.give],.a n] w
   λe w'=>e= .returned (.bool false)/\K_ w w':=by
 rw[y];obtain⟨K,L⟩:=x;have A:=c.asks;have B:=c.cases;have C:=c.give;unfold maxLen at A B C;have q:=sI s.give;have D:=Kz q;clear q;cases E:s.bad
 .have b:K_ w (w.alloc (.cells #[.slice f s.asks.length j,.a s.on,.slice i s.cases.length l,.a s.els,.a s.fall,.bool false,.bool false,.string s.give] 176)):=ah _ _;go_enter func120,ntmps120
  go_wp2_with fail
  .have F:Hid (s.give.size=0):=D.o.1 H8;refine (lC _ f j s.asks c.asks c.eO (m.kept b)).mono ?_;rintro e M ⟨k,d⟩;have a:=b.trans d;rcases k.cases with⟨rfl,r⟩|⟨rfl,N⟩
   .have G:=Kz r;clear r k;obtain⟨O,P⟩:=d.rules;have H:=d.size;simp only[MS] at H;clear b d;have Q:=p.kept a;clear p m;by_cases R:(s.cases.length:Int)<=5
    .by_cases S:0<=s.els
     .cases t:decide (s.els<=n-1)
      .have I:n-1<s.els:=by simpa using t
       go_wp2
       go_ret
       exact⟨rfl,a⟩
      .have I:s.els<=n-1:=by simpa using t
       by_cases T: -1<=s.fall
       .cases v:decide (s.fall<=n-1)
        .have J:n-1<s.fall:=by simpa using v
         go_wp2
         go_ret
         exact⟨rfl,a⟩
        .have J:s.fall<=n-1:=by simpa using v
         have h:¬(s.on=0\/(0<=s.on/\s.on<s.asks.length)):=λh=>z.out ⟨E,F.o,E5,G.o,E5,⟨E5,E5⟩,⟨E5,E5⟩,h⟩
         have U:(s.on != 0)=true:=bne_iff_ne.2 E5;by_cases V:0<=s.on
         .have W:s.asks.length-1<s.on:=E5;have X:decide (s.on<=(s.asks.length:Int)-1)=false:=F6;clear h;go_wp2
          go_ret
          exact⟨rfl,a⟩
         .clear h;go_wp2
          go_ret
          exact⟨rfl,a⟩
       .go_wp2
        go_ret
        exact⟨rfl,a⟩
     .go_wp2
      go_ret
      exact⟨rfl,a⟩
    .go_wp2
     go_ret
     exact⟨rfl,a⟩
   .clear k b d;go_wp2
    go_ret
    exact⟨rfl,a⟩
  .go_ret
   exact⟨rfl,b⟩
  .go_ret
   exact⟨rfl,b⟩
 .go_enter func120,ntmps120
  go_wp2
  go_ret
  exact⟨rfl,ah _ _⟩
theorem Tryz.CY :(prog.info? 80).map (λi=>(i.zero,i.size,i.bytes))=some (some (.agg #[.bool false,.string ByteArray.empty]),2,24):=F4
def dC(l:List Xz):List NJ:=(l.map Xz.cells).flatten
theorem tF(l:List Xz):(dC l).length=l.length*2:=by
 induction l with
 | nil=>rfl
 | cons c r ih=>simp only[dC,List.map_cons,List.flatten_cons,MU,MX] at ih⊢;rw[ih];simp[Xz.cells];omega
theorem oK(l:List Xz)(c:Xz):dC (l++ [c])=dC l++c.cells:=by simp[dC]
theorem qx :∀(l:List Xz) (i j:Nat),i<l.length->j<2->(dC l)[i*2+j]? = ((l.getD i Xz.zero).cells)[j]?
 | [],_,_,h,_=>aO h
 | c :: r,0,j,_,hj=>by
  have e:dC (c :: r)=c.cells++dC r:=rfl;rw[e,Nat.zero_mul,MM,Ni (by simpa[Xz.cells] using hj)]
  rfl
 | c :: r,i+1,j,h,hj=>by
  have e:dC (c :: r)=c.cells++dC r:=rfl;have b:c.cells.length=2:=rfl;rw[e,Nj (by rw[b];omega),b,show (i+1)*2+j-2=i*2+j by omega,qx r i j (by simpa using h) hj]
  rfl
def KQ(w:NI)(a:NH)(l:List Xz):Prop:=
 l=[]\/∃b cur fr,a=some ⟨b,0,none⟩/\w.heap[b]? =some (Obj.cells cur 80 fr)/\∀i,i<l.length->w.rangeAt b (i*2) (l.getD i Xz.zero).cells
theorem KQ.answers{w:NI}{a:NH}{l:List Xz}(h:KQ w a l):fw w a l:=by
 rcases h with rfl|⟨c,j,k,d,e,f⟩
 .intro i b;simp at b
 .exact λi b=>⟨c,0,d,aN e,by rw[MM];exact f i b⟩
theorem jB{w:NI}{base:Nat}{v:NJ}{n:Nat}{l:List Xz}(h:w.ownsRow base 80 2 v n (dC l)):∃a b,v= .slice a l.length b/\l.length<=b/\KQ w a l:=by
 have e:n=l.length:=by have:=h.1;rw[tF] at this;omega
 subst e;rcases h.2 with⟨rfl,c⟩|⟨g,b,f,rfl,r,k,m,_,_,_⟩
 .exact⟨none,0,by rw[c],E5,.inl (Nz c)⟩
 .refine⟨_,b,rfl,m,.inr ⟨g,f,_,rfl,k,λi p j u d=>?_⟩⟩;have q:j<2:=by have:=(Mk.1 d).1;simpa[Xz.cells] using this
  have:=h.cells (g:=g) rfl (i*2+j) u (by rw[qx l i j p q];exact d);rw[MZ,MM] at this;exact this
def Ld :List UInt8:=[48,49,50,51,52,53,54,55,56,57,97,98,99,100,101,102]
def nY(n:Nat):UInt8:=Ld.getD n 0
def jA :Nat->Nat->List UInt8
 | 0,_=>[]
 | k+1,v=>nY (v / 16 ^ k % 16) :: jA k v
theorem iC :∀k v,(jA k v).length=k
 | 0,_=>rfl
 | k+1,v=>by simp[jA,iC k v]
theorem CJ :∀(k v i:Nat) (h:i<(jA k v).length),(jA k v)[i]=nY (v / 16 ^ (k-1-i) % 16)
 | 0,_,_,h=>aO h
 | k+1,v,0,_=>by simp[jA]
 | k+1,v,i+1,h=>by
  have a:i<(jA k v).length:=by simpa[jA] using h
  have e:k+1-1-(i+1)=k-1-i:=E5;rw[e,<-CJ k v i a];simp[jA]
theorem Bl(j v:Nat)(h:v<16 ^ j):∀m,jA (m+j) v=List.replicate m 48++jA j v
 | 0=>E9
 | m+1=>by
  have e:m+1+j= (m+j)+1:=E5;rw[e,jA,Bl j v h m];have c:v / 16 ^ (m+j)=0:=by
   apply Nat.div_eq_of_lt;exact Mf h (Nat.pow_le_pow_right E5 E5)
  rw[c]
  rfl
def dS(v:Int)(b:UInt8):Int:=IntKind.u64.wrap (bits BinOp.xor IntKind.u64 v (b.toNat:Int)*1099511628211)
def sumOf(l:List UInt8):Int:=l.foldl dS 14695981039346656037
theorem zJ(b:UInt8):IntKind.u64.wrap (b.toNat:Int)= (b.toNat:Int):=by
 have:=b.toNat_lt;rw[IntKind.wrap_u64];omega
theorem wL(v:Int)(b:UInt8):0<=dS v b/\dS v b<18446744073709551616:=by
 unfold dS;rw[IntKind.wrap_u64];omega
theorem om :∀(l:List UInt8) (v:Int),0<=v/\v<18446744073709551616->0<=l.foldl dS v/\l.foldl dS v<18446744073709551616
 | [],_,h=>h
 | b :: r,v,_=>om r _ (wL v b)
theorem rT(l:List UInt8):0<=sumOf l/\sumOf l<18446744073709551616:=om l _ E5
theorem rZ(l:List UInt8)(k:Nat)(h:k<l.length):(l.take (k+1)).foldl dS 14695981039346656037=dS ((l.take k).foldl dS 14695981039346656037) (l.getD k 0):=by
 rw[Ml h,List.foldl_append];simp[List.getD,h]
def jI(give:List UInt8)(ts:List (List UInt8)):List UInt8:=give++40 :: (Lib.join ts [44]++ [41])
def mr(give:List UInt8)(ts:List (List UInt8)):List UInt8:=
 if 30<give.length\/100<ts.length\/(∃t∈ts,200<t.length) then []
 else if (jI give ts).length<=200 then jI give ts
 else 35 :: jA 16 (sumOf (jI give ts)).toNat
theorem JS(a:List (List UInt8))(n:Nat)(h:∀t∈a,t.length<=n):(Lib.join a [44]).length<=a.length*(n+1):=by
 cases a with
 | nil=>simp[Lib.join_nil]
 | cons x r=>
  rw[Lib.join_cons,MU,Lib.joinTail_length];have e:=h x E9;have f:Lib.lens r<=r.length*n:=by
   have:∀(q:List (List UInt8)),(∀t∈q,t.length<=n)->Lib.lens q<=q.length*n:=by
    intro q
    induction q with
    | nil=>intro _;simp[Lib.lens]
    | cons y q ih=>
     intro c;have i:=c y E9;have d:=ih (λt b=>c t (by simp[b]));simp only[Lib.lens,List.map_cons,List.sum_cons,MX,Nat.succ_mul] at d⊢;omega
   exact this r (λt b=>h t (by simp[b]))
  simp only[MX,List.length_nil,MM,Nat.one_mul];have:(r.length+1)*(n+1)=r.length*n+r.length+n+1:=by rw[Nat.add_mul,Nat.mul_add];omega
  omega
theorem oI(a:List (List UInt8))(k:Nat)(h:k<a.length):
  Lib.join (a.take (k+1)) [44]=Lib.join (a.take k) [44]++ ((if 0<k then [44] else [])++a.getD k []):=by
 cases a with
 | nil=>simp at h
 | cons x r=>
  cases k with
  | zero=>simp[Lib.join_one,Lib.join_nil]
  | succ k=>
   have c:k<r.length:=by simpa using h
   rw[List.take_succ_cons,List.take_succ_cons,Lib.join_cons,Lib.join_cons,Lib.joinTail_take_succ [44] r k (r.getD k []) (by simp[List.getD,c])];simp[List.append_assoc]
def texts(l:List NG):List (List UInt8):=l.map (·.data.toList)
def mY(give:NG)(l:List NG):NG:=⟨(mr give.data.toList (texts l)).toArray⟩
theorem jJ(l:List NG):(texts l).length=l.length:=by simp[texts]
theorem xB(l:List NG)(k:Nat)(h:k<l.length):(texts l).getD k []= (l.getD k ByteArray.empty).data.toList:=by simp[texts,List.getD,h]
variable {give : NG} {l : List NG}
theorem jV(h:30<give.size\/100<l.length\/∃i,i<l.length/\200<(l.getD i ByteArray.empty).size):mY give l=ByteArray.empty:=by
 unfold mY mr;rw[Nt]
 .rfl
 .rcases h with h|h|⟨i,b,c⟩
  .left;simpa using h
  .right;left;simpa[texts] using h
  .right;right
   refine⟨(l.getD i ByteArray.empty).data.toList, ?_,by simpa using c⟩;simp[texts,List.getD,b];exact⟨_,Mq b,rfl⟩
def pF(give:NG)(l:List NG):Prop:=give.size<=30/\l.length<=100/\∀i,i<l.length->(l.getD i ByteArray.empty).size<=200
theorem pF.not(h:pF give l):¬(30<give.data.toList.length\/100<(texts l).length\/(∃t∈texts l,200<t.length)):=by
 rintro (g|g|⟨t,b,g⟩)
 .have:=h.1;simp at g;omega
 .have:=h.2.1;simp[texts] at g;omega
 .simp only[texts,MH] at b;obtain⟨x,d,rfl⟩:=b;obtain⟨i,c,rfl⟩:=Ms d;have:=h.2.2 i c;simp[List.getD,c] at this g;omega
variable {b : NG}
theorem xw(h:pF give l)(a:b.data.toList=jI give.data.toList (texts l))(d:b.size<=200):mY give l=b:=by
 unfold mY mr;rw[Nu h.not,Nt (by rw[<-a];simpa using d),<-a]
theorem zH(h:pF give l)(a:b.data.toList=jI give.data.toList (texts l))(d:200<b.size):mY give l= ⟨(35 :: jA 16 (sumOf b.data.toList).toNat).toArray⟩:=by
 unfold mY mr;rw[Nu h.not,Nu (by rw[<-a];simp;omega),<-a]
theorem Ad{a:NG}(h:a.data.toList=b.data.toList):a=b:=by
 cases a;cases b;simp at h;simp[h]
theorem fM(a b:NG):(a++b).data.toList=a.data.toList++b.data.toList:=by simp[ByteArray.data_append]
theorem lF{a:NG}(h:a=b):Ending.returned (.string a)= .returned (.string b):=by rw[h]
theorem JE(n:Nat)(h:n<16):(((⟨#[48,49,50,51,52,53,54,55,56,57,97,98,99,100,101,102]⟩:NG).extract n 16).extract 0 1).data.toList=[nY n]:=by
 have:∀m:Fin 16,(((⟨#[48,49,50,51,52,53,54,55,56,57,97,98,99,100,101,102]⟩:NG).extract m.val 16).extract 0 1).data.toList=[nY m.val]:=by decide+kernel
 exact this ⟨n,h⟩
structure Q_ where
 name:NG
 over:Bool
 fail:Bool
 text:NG
 at':Int
 Zq:Int
 texts:List NG
def eH(l:List NG)(m:NG):Bool:=l.any λx=>decide (x=m)
theorem cK{l:List NG}{m:NG}:eH l m=true↔m∈l:=by simp[eH]
def Q_.fresh(n:NG):Q_:=⟨n,false,false,⟨#[]⟩,0,0,[]⟩
def wK(n:NG):NG:=(⟨#[110,111,32]⟩:NG)++n
def iJ :NG:=⟨#[115,112,101,110,116]⟩
abbrev Env :=NG->Option Q_
abbrev dA :=NG->Option fJ
variable {n : NG} {σ : Env} {r : Q_}
section
variable (W : dA)
def bH(σ:Env)(n:NG):Option Xz:=
 match W n with
 | none=>some ⟨true,wK n⟩
 | some _=>match σ n with
  | some r=>if r.over=true then some ⟨r.fail,r.text⟩ else none
  | none=>none
def Yz(σ:Env):List NG->Option (List Xz)
 | []=>some []
 | a :: l=>match bH W σ a with
  | none=>none
  | some x=>match Yz σ l with
   | none=>none
   | some y=>some (x :: y)
def stepOf(a:fJ)(i:Int):Xq:=a.steps.getD i.toNat Xq.zero
def aL(xs:List Xz):List NG:=(xs.filter λx=>!x.fail).map (·.text)
def nW :List Xz->Nat->Option Nat
 | [],_=>none
 | x :: l,i=>if x.fail=true then some i else nW l (i+1)
def oD(t:NG)(els:Int):List bO->Int
 | []=>els
 | c :: l=>if c.text=t then c.goto else oD t els l
def eP(s:Xq)(xs:List Xz):bW:=
 match nW xs 0 with
 | some i=>if s.fall= -1 then ⟨0,true,0,jH s i⟩ else ⟨0,false,s.fall,⟨#[]⟩⟩
 | none=>⟨0,false,if xs.length=0 then s.els else oD (lW xs s.on) s.els s.cases,⟨#[]⟩⟩
def dZ(a:fJ)(r:Q_):Q_×List NG:=
 (if (stepOf a r.at').fin=true then {r with Zq:=r.Zq+1,over:=true,fail:=(stepOf a r.at').bad,text:=mY (stepOf a r.at').give r.texts} else {r with Zq:=r.Zq+1},(stepOf a r.at').asks)
def Xx(σ:Env)(r:Q_):Q_×List NG:=
 match W r.name with
 | none=>(r,[])
 | some a=>
  if r.Zq=0 then dZ a r else
  match Yz W σ (stepOf a r.at').asks with
  | none=>(r,[])
  | some xs=>
   if r.Zq=20 then ({r with over:=true,fail:=true,text:=iJ},[]) else
   if (eP (stepOf a r.at') xs).over=true then ({r with Zq:=r.Zq+1,over:=true,fail:=true,text:=(eP (stepOf a r.at') xs).text},[]) else
   dZ a {r with texts:=r.texts++aL xs,at':=(eP (stepOf a r.at') xs).at'}
def aT(σ:Env)(r:Q_):Prop:=r.over=false/\(r.Zq=0\/∃a xs,W r.name=some a/\Yz W σ (stepOf a r.at').asks=some xs)
def bB(σ:Env)(n:NG):Prop:=∃r,σ n=some r/\aT W σ r
def doX(σ:Env)(n:NG):Env:=
 match σ n with
 | none=>σ
 | some r=>λm=>if m=n then some (Xx W σ r).1 else
  match σ m with
  | some x=>some x
  | none=>if eH (Xx W σ r).2 m=true/\(W m).isSome=true then some (Q_.fresh m) else none
variable {W}
theorem dV(h:σ n=some r)(k:NG):doX W σ n k=if k=n then some (Xx W σ r).1 else match σ k with | some x=>some x | none=>if eH (Xx W σ r).2 k=true/\(W k).isSome=true then some (Q_.fresh k) else none:=by
 unfold doX;rw[h]
theorem jT{m:NG}(h:m≠n){x:Q_}(a:σ m=some x):doX W σ n m=some x:=by
 unfold doX;cases c:σ n with
 | none=>simpa using a
 | some r=>simp[h,a]
theorem iV(h:σ n=some r):doX W σ n n=some (Xx W σ r).1:=by
 unfold doX;simp[h]
theorem DZ{a:NG}{x:Xz}(f:bB W σ n)(h:bH W σ a=some x):bH W (doX W σ n) a=some x:=by
 unfold bH at h⊢;cases c:W a with
 | none=>simpa[c] using h
 | some act=>
  simp only[c] at h⊢;cases b:σ a with
  | none=>simp[b] at h
  | some r=>
   simp only[b] at h;by_cases e:a=n
   .subst e;obtain⟨j,d,i⟩:=f;rw[b] at d;cases d;rw[Nu (by rw[i.1];simp)] at h;cases h
   .rw[jT e b];exact h
theorem kI(d:bB W σ n):∀{l:List NG} {xs:List Xz},Yz W σ l=some xs->Yz W (doX W σ n) l=some xs
 | [],_,h=>h
 | a :: l,xs,h=>by
  unfold Yz at h⊢;cases b:bH W σ a with
  | none=>simp[b] at h
  | some x=>
   simp only[b] at h;cases c:Yz W σ l with
   | none=>simp[c] at h
   | some y=>
    simp only[c] at h;rw[DZ d b,kI d c];exact h
theorem aT.mono(b:bB W σ n)(h:aT W σ r):aT W (doX W σ n) r:=
 ⟨h.1,h.2.imp id λ⟨a,d,e,f⟩=>⟨a,d,e,kI b f⟩⟩
theorem oh(e:bB W σ n)(h:aT W σ r):Xx W (doX W σ n) r=Xx W σ r:=by
 unfold Xx;cases f:W r.name with
 | none=>rfl
 | some a=>
  simp only;by_cases c:r.Zq=0
  .simp[c]
  .rcases h.2 with b|⟨i,j,b,d⟩
   .exact Nv b c
   .rw[f] at b;cases b;simp only[c,if_false];rw[kI e d,d]
theorem nH :oJ (bB W) (doX W):=by
 intro σ n m b c f;obtain⟨r,d,l⟩:=c;obtain⟨q,e,h⟩:=f;have c:bB W σ n:=⟨r,d,l⟩;have f:bB W σ m:=⟨q,e,h⟩;have p:doX W σ n m=some q:=jT (Ne.symm b) e;have t:doX W σ m n=some r:=jT b d;refine⟨⟨q,p,h.mono c⟩, ?_⟩;have v:Xx W (doX W σ n) q=Xx W σ q:=oh c h;have w:Xx W (doX W σ m) r=Xx W σ r:=oh f l
 funext k
 have L:doX W (doX W σ n) m k=if k=m then some (Xx W σ q).1 else match doX W σ n k with | some x=>some x | none=>if eH (Xx W σ q).2 k=true/\(W k).isSome=true then some (Q_.fresh k) else none:=by
  rw[dV p,v]
 have R:doX W (doX W σ m) n k=if k=n then some (Xx W σ r).1 else match doX W σ m k with | some x=>some x | none=>if eH (Xx W σ r).2 k=true/\(W k).isSome=true then some (Q_.fresh k) else none:=by
  rw[dV t,w]
 rw[L,R];by_cases i:k=m
 .subst i;rw[Nt rfl,Nu (Ne.symm b),iV e]
 .by_cases j:k=n
  .subst j;rw[Nu b,Nt rfl,iV d]
  .rw[Nu i,Nu j];have y:doX W σ n k=match σ k with | some x=>some x | none=>if eH (Xx W σ r).2 k=true/\(W k).isSome=true then some (Q_.fresh k) else none:=by
    rw[dV d,Nu j]
   have z:doX W σ m k=match σ k with | some x=>some x | none=>if eH (Xx W σ q).2 k=true/\(W k).isSome=true then some (Q_.fresh k) else none:=by
    rw[dV e,Nu i]
   rw[y,z];cases A:σ k with
   | some x=>rfl
   | none=>
    simp only;by_cases s:eH (Xx W σ r).2 k=true/\(W k).isSome=true
    .rw[Nt s];by_cases a:eH (Xx W σ q).2 k=true/\(W k).isSome=true
     .rw[Nt a]
     .rw[Nu a]
    .rw[Nu s];by_cases a:eH (Xx W σ q).2 k=true/\(W k).isSome=true
     .rw[Nt a]
     .rw[Nu a]
def Behind(p:Q_->Q_->Prop)(G:Env)(σ:Env)(n:NG):Prop:=bB W σ n/\∃r g,σ n=some r/\G n=some g/\p r g
theorem ig(p:Q_->Q_->Prop)(G:Env):oJ (Behind (W:=W) p G) (doX W):=by
 intro σ n m a c b;obtain⟨d,e⟩:=nH σ n m a c.1 b.1;obtain⟨q,g,f,h,i⟩:=b.2;exact⟨⟨d,q,g,jT (Ne.symm a) f,h,i⟩,e⟩
theorem fH(i:aT W σ r)(d:(W r.name).isSome=true):((Xx W σ r).1.Zq=r.Zq+1)\/(r.Zq=20/\(Xx W σ r).1.Zq=20/\(Xx W σ r).1.over=true):=by
 unfold Xx;cases e:W r.name with
 | none=>rw[e] at d;cases d
 | some a=>
  simp only;by_cases b:r.Zq=0
  .left
   simp only[b,if_true];unfold dZ
   split <;> simp[b]
  .rcases i.2 with c|⟨l,j,c,k⟩
   .exact Nv c b
   .rw[e] at c;cases c;simp only[b,if_false,k];by_cases f:r.Zq=20
    .right
     simp[f]
    .left
     simp only[f,if_false];by_cases h:(eP (stepOf a r.at') j).over=true
     .simp[h]
     .simp only[h];unfold dZ;simp only[Bool.false_eq_true,if_false]
      split <;> simp
theorem di :(Xx W σ r).1.name=r.name:=by
 unfold Xx dZ
 repeat' split
 all_goals rfl
end
variable {n : NG} {G σ : Env}
section
variable {W : dA}
structure Q_.Ok (W:dA) (n:NG) (r:Q_):Prop where
 name:r.name=n
 web:(W n).isSome=true
 lo:0<=r.Zq
 hi:r.Zq<=20
def WfX(W:dA)(σ:Env):Prop:=∀n r,σ n=some r->r.Ok W n
theorem Fx{r:Q_}(h:r.Ok W n)(c:aT W σ r):(Xx W σ r).1.Ok W n:=by
 have d:=fH c (by rw[h.name];exact h.web);refine⟨by rw[di];exact h.name,h.web, ?_, ?_⟩
 .have:=h.lo;rcases d with e | ⟨_,e,_⟩ <;> omega
 .rcases d with e|⟨_,e,_⟩
  .have:=h.hi;by_cases f:r.Zq=20
   .exfalso
    have k:(Xx W σ r).1.Zq=r.Zq:=by
     unfold Xx;cases i:W r.name with
     | none=>rfl
     | some a=>
      simp only;rw[Nu E5];rcases c.2 with b|⟨l,m,b,j⟩
      .omega
      .rw[i] at b;cases b;simp[j,f]
    omega
   .omega
  .omega
theorem AJ(h:WfX W σ)(d:bB W σ n):WfX W (doX W σ n):=by
 intro m x a;obtain⟨r,c,f⟩:=d;rw[dV c] at a;by_cases e:m=n
 .rw[Nt e] at a;cases a;rw[e];exact Fx (h n r c) f
 .rw[Nu e] at a;cases b:σ m with
  | some y=>
   rw[b] at a;simp only[MV] at a;subst a;exact h m y b
  | none=>
   rw[b] at a;simp only at a
   split at a
   .rename_i hc2
    cases a;exact⟨rfl,hc2.2,Int.le_refl _,by show (0:Int)<=20;omega⟩
   .cases a
def bF(r g:Q_):Prop:=r.Zq<g.Zq\/(r.Zq=g.Zq/\g.over=true/\20<=r.Zq)
def dI(r g:Q_):Prop:=g.over=true\/r.Zq<g.Zq
theorem zG{r g:Q_}(h:bF r g):dI r g:=by
 rcases h with h|⟨_,h,_⟩
 .exact .inr h
 .exact .inl h
theorem ut{p:Q_->Q_->Prop}{τ :Env}{k:Nat}(h:a_ (Behind (W:=W) p G) (doX W) σ τ k){r:Q_}(a:σ n=some r)(c:∀g,G n=some g->¬p r g): τ n=some r:=by
 induction h with
 | here s=>exact a
 | step s t i k hi _ ih=>
  refine ih ?_;by_cases e:n=i
  .subst e;obtain⟨j,g,b,d,f⟩:=hi.2;rw[a] at b;cases b;exact Nv f (c g d)
  .exact jT e a
theorem qV{p:Q_->Q_->Prop}{τ :Env}{k:Nat}(h:a_ (Behind (W:=W) p G) (doX W) σ τ k)(b:WfX W σ){r:Q_}(a:σ n=some r):∃q, τ n=some q/\r.Zq<=q.Zq:=by
 induction h generalizing r with
 | here s=>exact⟨r,a,Int.le_refl _⟩
 | step s t i k hi _ ih=>
  have c:=AJ b hi.1;by_cases e:n=i
  .subst e;obtain⟨m,d,j⟩:=hi.1;rw[a] at d;cases d;obtain⟨q,l,v⟩:=ih c (iV a);have f:=b n r a;refine⟨q,l, ?_⟩;rcases fH j (by rw[f.name];exact f.web) with e | ⟨e1,e,_⟩ <;> omega
  .exact ih c (jT e a)
theorem a_.rest{α ι :Type}{ready:α-> ι ->Prop}{step:α-> ι ->α}(d:oJ ready step):∀{j k:Nat} {s t u:α},a_ ready step s t j->a_ ready step s u k->AtEnd ready u->∃m,a_ ready step t u m:=by
 intro j
 induction j with
 | zero=>intro k s t u h g _;cases h;exact⟨k,g⟩
 | succ j ih=>
  intro k s t u h g c;cases h with
  | step _ _ i _ hi hr=>
   obtain⟨m,_,e⟩:=g.first d c hi
   exact ih hr e c
theorem Dz{e a:Env}{k:Nat}(t:a_ (Behind (W:=W) bF G) (doX W) e a k)(v:AtEnd (Behind (W:=W) bF G) a)(w:a=G):∀{j:Nat} {σ τ :Env} {i:Nat},a_ (Behind (W:=W) bF G) (doX W) e σ i->a_ (Behind (W:=W) dI G) (doX W) σ τ j->a_ (Behind (W:=W) bF G) (doX W) σ τ j:=by
 intro j
 induction j with
 | zero=>intro σ τ i _ h;cases h;exact .here _
 | succ j ih=>
  intro σ τ i f h;cases h with
  | step _ _ n _ hn hr=>
   have l:Behind (W:=W) bF G σ n:=by
    obtain⟨m,r,g,b,c,x⟩:=hn;refine⟨m,r,g,b,c, ?_⟩;by_cases d:bF r g
    .exact d
    .exfalso
     obtain⟨A,y⟩:=a_.rest (ig bF G) f t v;have p:=ut y b (λB q=>by rw[c] at q;cases q;exact d);rw[w,c] at p;cases p;obtain⟨C,s,z⟩:=m;rw[b] at s;cases s;rcases x with h | h
     .rw[z.1] at h;cases h
     .exact d (.inl h)
   exact .step _ _ n _ l (ih (f.snoc l) hr)
theorem vF{τ :Env}(p: τ =G):∀{j:Nat} {σ:Env},WfX W σ->a_ (Behind (W:=W) dI G) (doX W) σ τ j->a_ (Behind (W:=W) bF G) (doX W) σ τ j:=by
 intro j
 induction j with
 | zero=>intro σ _ h;cases h;exact .here _
 | succ j ih=>
  intro σ c h;cases h with
  | step _ _ n _ hn hr=>
   have d:=AJ c hn.1;have q:Behind (W:=W) bF G σ n:=by
    obtain⟨f,r,g,b,i,s⟩:=hn;refine⟨f,r,g,b,i, ?_⟩;by_cases a:bF r g
    .exact a
    .exfalso
     obtain⟨w,k,t⟩:=f;rw[b] at k;cases k;obtain⟨x,l,y⟩:=qV hr d (iV b);rw[p,i] at l;cases l;have m:=c n r b;rcases s with h|h
     .rcases fH t (by rw[m.name];exact m.web) with e|⟨e1,e,_⟩
      .exact a (.inl E5)
      .by_cases v:r.Zq=g.Zq
       .exact a (.inr ⟨v,h,E5⟩)
       .exact a (.inl E5)
     .exact a (.inl h)
   exact .step _ _ n _ q (ih d hr)
theorem Gz{e a c:Env}{k j:Nat}(n:WfX W e)(f:a_ (Behind (W:=W) bF G) (doX W) e a k)(h:AtEnd (Behind (W:=W) bF G) a)(i:a_ (Behind (W:=W) dI G) (doX W) e c j)(p:AtEnd (Behind (W:=W) dI G) c):(a=G↔c=G)/\(a=G->c=a):=by
 have l:AtEnd (Behind (W:=W) bF G) c:=λq m=>p q ⟨m.1,by obtain⟨r,g,d,s,t⟩:=m.2;exact⟨r,g,d,s,zG t⟩⟩
 have d:a=G->c=a:=λb=>(f.unique (ig _ _) h (Dz f h b (.here _) i) l).symm
 refine⟨⟨λb=>(d b).trans b,λb=>?_⟩,d⟩;have:=f.unique (ig _ _) h (vF b n i) l;rw[this];exact b
def lJ :Option Q_->Nat
 | none=>23
 | some r=>if r.over=true then 0 else 22-r.Zq.toNat
def b_(Kq:List NG)(σ:Env):Nat:=(Kq.map λn=>lJ (σ n)).sum
theorem Jf{m:NG}(d:WfX W σ)(f:bB W σ n):lJ (doX W σ n m)<=lJ (σ m)/\(m=n->lJ (doX W σ n m)<lJ (σ m)):=by
 obtain⟨r,a,c⟩:=f;have b:=d n r a;by_cases e:m=n
 .subst e;have:lJ (doX W σ m m)<lJ (σ m):=by
   rw[iV a,a];have j:=b.lo;have k:=b.hi;show (if (Xx W σ r).1.over=true then 0 else 22-(Xx W σ r).1.Zq.toNat)<(if r.over=true then 0 else 22-r.Zq.toNat);have h:(if r.over=true then 0 else 22-r.Zq.toNat)=22-r.Zq.toNat:=by rw[c.1];rfl
   rw[h];rcases fH c (by rw[b.name];exact b.web) with e|⟨e1,e,eo⟩
   .split
    .omega
    .rw[e];omega
   .rw[Nt eo];omega
  exact⟨Nat.le_of_lt this,λ_=>this⟩
 .refine⟨?_,λi=>Nv i e⟩;rw[dV a,Nu e];cases l:σ m with
  | some x=>exact Me _
  | none=>
   simp only
   split
   .show 22-0<=23;omega
   .exact Me _
theorem mF(a:WfX W σ)(b:bB W σ n):∀(Kq:List NG),b_ Kq (doX W σ n)<=b_ Kq σ/\(n∈Kq->b_ Kq (doX W σ n)<b_ Kq σ)
 | []=>⟨Me _,λh=>by cases h⟩
 | m :: l=>by
  obtain⟨i,c⟩:=mF a b l;obtain⟨j,d⟩:=Jf (m:=m) a b;have e:b_ (m :: l) (doX W σ n)=lJ (doX W σ n m)+b_ l (doX W σ n):=by simp[b_]
  have f:b_ (m :: l) σ=lJ (σ m)+b_ l σ:=by simp[b_]
  rw[e,f];refine⟨E5,λh=>?_⟩;rcases Na.1 h with h | h
  .have:=d h.symm;omega
  .have:=c h;omega
end
theorem toList_inj{a b:NG}:a.toList=b.toList↔a=b:=by
 refine⟨λh=>Ad ?_,λh=>by rw[h]⟩;rw[ByteArray.toList_eq,ByteArray.toList_eq] at h;exact h
theorem kD{a b:NG}(h:(a.toList == b.toList)=false):a≠b:=λe=>by rw[e] at h;simp at h
theorem fA{a b:NG}(h:(a.toList == b.toList)=true):a=b:=toList_inj.1 (by simpa using h)
def Q_.zero :Q_:=Q_.fresh ByteArray.empty
def Q_.cells(r:Q_)(xa:NH)(xc:Nat):List NJ:=[.string r.name,.bool r.over,.bool r.fail,.string r.text,.a r.at',.a r.Zq,.slice xa r.texts.length xc]
theorem Q_.one(r:Q_)(x:NH)(c:Nat):∀u∈r.cells x c,u.oneCell'=true:=by
 intro u a;simp only[Q_.cells,Na,Nb,or_false] at a;rcases a with rfl | rfl | rfl | rfl | rfl | rfl | rfl <;> rfl
def cB(w:NI)(a:NH)(l:List Q_):Prop:=
 ∀i,i<l.length->∃b o xa xc,a=some ⟨b,o,none⟩/\b<w.heap.size/\w.rangeAt b (o+i*7) ((l.getD i Q_.zero).cells xa xc)/\Strs w xa (l.getD i Q_.zero).texts/\(xa=none->xc=0)
variable {w : NI}
theorem cB.kept{w':NI}{a:NH}{l:List Q_}(h:cB w a l)(k:K_ w w'):cB w' a l:=by
 intro i c;obtain⟨d,o,e,f,j,b,m,n,p⟩:=h i c;exact⟨d,o,e,f,j,Mf b k.size,k.range b m,n.kept k,p⟩
def Qq(l:List Q_):Env:=λn=>l.find? λr=>decide (r.name=n)
variable {n : NG}
theorem Be{l:List Q_}(h:∀j,j<l.length->(l.getD j Q_.zero).name≠n):Qq l n=none:=by
 unfold Qq;rw[List.find?_eq_none];intro r c;obtain⟨j,a,e⟩:=Ms c;have:=h j a;simp only[List.getD,Mj a,e,Nw] at this;simpa using this
theorem Dw :∀{l:List Q_} {k:Nat},k<l.length->(l.getD k Q_.zero).name=n->(∀j,j<k->(l.getD j Q_.zero).name≠n)->Qq l n=some (l.getD k Q_.zero)
 | [],_,hk,_,_=>aO hk
 | r :: l,0,_,h,_=>by
  have a:r.name=n:=h;simp[Qq,List.find?,a,List.getD]
 | r :: l,k+1,hk,h,hj=>by
  have b:r.name≠n:=hj 0 E5;have e:Qq (r :: l) n=Qq l n:=by simp[Qq,List.find?,b]
  rw[e,Dw (k:=k) (by simpa using hk) h (λj d=>hj (j+1) E5)]
  rfl
def Ev(l:List Q_)(n:NG)(r:Int):Prop:=(∃k:Nat,k<l.length/\r= (k:Int)/\Qq l n=some (l.getD k Q_.zero)/\(l.getD k Q_.zero).name=n)\/(r= -1/\Qq l n=none)
def Kk(Kq:List Qz):dA:=λn=>(Kq.find? λd=>decide (d.name=n)).map λd=>⟨d.cost,d.steps⟩
theorem yO{l:List Qz}(h:∀j,j<l.length->(l.getD j Qz.zero).name≠n):Kk l n=none:=by
 unfold Kk;rw[Option.map_eq_none_iff,List.find?_eq_none];intro r c;obtain⟨j,a,e⟩:=Ms c;have:=h j a;simp only[List.getD,Mj a,e,Nw] at this;simpa using this
theorem AC :∀{l:List Qz} {k:Nat},k<l.length->(l.getD k Qz.zero).name=n->(∀j,j<k->(l.getD j Qz.zero).name≠n)->Kk l n=some ⟨(l.getD k Qz.zero).cost,(l.getD k Qz.zero).steps⟩
 | [],_,hk,_,_=>aO hk
 | r :: l,0,_,h,_=>by
  have a:r.name=n:=h;simp[Kk,List.find?,a,List.getD]
 | r :: l,k+1,hk,h,hj=>by
  have b:r.name≠n:=hj 0 E5;have e:Kk (r :: l) n=Kk l n:=by simp[Kk,List.find?,b]
  rw[e,AC (k:=k) (by simpa using hk) h (λj d=>hj (j+1) E5)]
  rfl
def Ia(l:List Qz)(n:NG)(r:Int):Prop:=(∃k:Nat,k<l.length/\r= (k:Int)/\Kk l n=some ⟨(l.getD k Qz.zero).cost,(l.getD k Qz.zero).steps⟩/\(l.getD k Qz.zero).name=n/\∀j,j<k->(l.getD j Qz.zero).name≠n)\/(r= -1/\Kk l n=none)
theorem gp{A:fJ}:∀{l:List Qz},Kk l n=some A->∃k,k<l.length/\(l.getD k Qz.zero).name=n/\(∀j,j<k->(l.getD j Qz.zero).name≠n)/\A= ⟨(l.getD k Qz.zero).cost,(l.getD k Qz.zero).steps⟩
 | [],h=>by simp[Kk] at h
 | d :: l,h=>by
  by_cases e:d.name=n
  .refine⟨0,E9,e,λj a=>aO a, ?_⟩;simp[Kk,e] at h;exact h.symm
  .have b:Kk (d :: l) n=Kk l n:=by simp[Kk,List.find?,e]
   rw[b] at h;obtain⟨k,c,f,i,m⟩:=gp h;refine⟨k+1,by simpa using c,f,λj a=>?_,m⟩;cases j with
   | zero=>exact e
   | succ j=>exact i j E5
theorem iI{l:List Qz}{k a:Nat}(h:(l.getD k Qz.zero).name=n)(b:∀j,j<k->(l.getD j Qz.zero).name≠n)(g:(l.getD a Qz.zero).name=n)(c:∀j,j<a->(l.getD j Qz.zero).name≠n):k=a:=by
 rcases Ns k a with e|e|e
 .exact Nv h (c k e)
 .exact e
 .exact Nv g (b a e)
def EP(Kq:List Qz)(l:List Q_)(n:NG)(e:Ending):Prop:=
 ∃(f:Bool) (t:NG) (ok:Bool),e= .returned (.tuple #[.agg #[.bool f,.string t],.bool ok])/\bH (Kk Kq) (Qq l) n=if ok=true then some ⟨f,t⟩ else none
structure gQ (w:NI) (kb:Nat) (a:NH) (n cap:Nat) (d:NH) (m dc:Nat):Prop where
 row:aD w kb 86 2
 web:w.cell? ⟨kb,0,none⟩=some (.slice a n cap)
 runs:w.cell? ⟨kb,1,none⟩=some (.slice d m dc)
theorem gQ.kept{w':NI}{c n e m f:Nat}{a d:NH}(h:gQ w c a n e d m f)(k:K_ w w'):gQ w' c a n e d m f:=
 ⟨h.row.kept k,(k.cell h.row.lt).trans h.web,(k.cell h.row.lt).trans h.runs⟩
theorem fF(w:NI)(a:NH)(t:Nat)(l:List Qz)(c:NG)(A:l.length<=1048576)(v:bT w a l):
  Calls prog 37 #[.agg #[.slice a l.length t],.string c] w λe w'=>(∃r,e= .returned (.a r)/\Ia l c r)/\K_ w w':=by
 have f:K_ w (w.alloc (.cells #[.slice a l.length t] 25)):=ah _ _;go_enter func37,ntmps37
 go_wp2
 go_loop [5] (λi=>∃k:Nat,k<=l.length/\i= .a k/\Hid (∀j,j<k->(l.getD j Qz.zero).name≠c)) (λi=>l.length-(intOf i).toNat)
 case atStart=>exact⟨0,Mg _,rfl,Kz λj h=>aO h⟩
 case round=>
  obtain⟨k,B,rfl,d⟩:=hrel;by_cases m:k<l.length
  .obtain⟨b,o,C,rfl,D,n,E,F,rfl,x⟩:=(v.kept f) k m;obtain⟨y,p⟩:=aj (l.getD k Qz.zero);rw[<-p] at n;have z:=n 0 _ rfl;rw[M_] at z;have q:=Kz p;clear n p x;cases s:(y.name.toList == c.toList)
   .go_wp2
    go_round
    case rel=>
     refine⟨k+1,E5,F3,Kz λj h=>?_⟩;by_cases e:j=k
     .rw[e,<-q.o];exact kD s
     .exact d.o j E5
    case measure=>simp[intOf];omega
   .go_wp2
    go_ret
    exact⟨⟨k,rfl,.inl ⟨k,m,rfl,AC m (by rw[<-q.o];exact fA s) d.o,(by rw[<-q.o];exact fA s),d.o⟩⟩,f⟩
  .go_wp2
   go_ret
   exact⟨⟨-1,rfl,.inr ⟨rfl,yO λj h=>d.o j E5⟩⟩,f⟩
theorem GZ(w:NI)(v:Nat)(a:NH)(n y:Nat)(d:NH)(z:Nat)(l:List Q_)(c:NG)(D:l.length<=1048576)(x:gQ w v a n y d l.length z)(A:cB w d l):
  Calls prog 86 #[.c v,.string c] w λe w'=>(∃r,e= .returned (.a r)/\Ev l c r)/\w'=w:=by
 have E:=x.runs;have F:=x.row.lt;go_enter func86,ntmps86
 go_wp2
 go_loop [5] (λi=>∃k:Nat,k<=l.length/\i= .a k/\Hid (∀j,j<k->(l.getD j Q_.zero).name≠c)) (λi=>l.length-(intOf i).toNat)
 case atStart=>exact⟨0,Mg _,rfl,Kz λj f=>aO f⟩
 case round=>
  obtain⟨k,G,rfl,h⟩:=hrel;by_cases m:k<l.length
  .obtain⟨b,o,H,I,rfl,J,p,_,_⟩:=A k m;obtain⟨B,q⟩:=aj (l.getD k Q_.zero);rw[<-q] at p;have C:=p 0 _ rfl;rw[M_] at C;have s:=Kz q;clear p q;cases t:(B.name.toList == c.toList)
   .go_wp2
    go_round
    case rel=>
     refine⟨k+1,E5,F3,Kz λj f=>?_⟩;by_cases e:j=k
     .rw[e,<-s.o];exact kD t
     .exact h.o j E5
    case measure=>simp[intOf];omega
   .go_wp2
    go_ret
    exact⟨⟨k,rfl,.inl ⟨k,m,rfl,Dw m (by rw[<-s.o];exact fA t) h.o,by rw[<-s.o];exact fA t⟩⟩,rfl⟩
  .go_wp2
   go_ret
   exact⟨⟨-1,rfl,.inr ⟨rfl,Be λj f=>h.o j E5⟩⟩,rfl⟩
theorem gU(w:NI)(t:NH)(v x:Nat)(d:NH)(y:Nat)(l:List Q_)(a:NG)(C:l.length<=1048576)(z:cB w d l):
  Calls prog 29 #[.agg #[.slice t v x,.slice d l.length y],.string a] w λe w'=>(∃r,e= .returned (.a r)/\Ev l a r)/\K_ w w':=by
 have c:K_ w (w.alloc (.cells #[.slice t v x,.slice d l.length y] 32)):=ah _ _;go_enter func29,ntmps29
 go_wp2
 go_loop [5] (λi=>∃k:Nat,k<=l.length/\i= .a k/\Hid (∀j,j<k->(l.getD j Q_.zero).name≠a)) (λi=>l.length-(intOf i).toNat)
 case atStart=>exact⟨0,Mg _,rfl,Kz λj f=>aO f⟩
 case round=>
  obtain⟨k,D,rfl,h⟩:=hrel;by_cases m:k<l.length
  .obtain⟨b,o,E,F,rfl,G,n,_,_⟩:=(z.kept c) k m;obtain⟨A,p⟩:=aj (l.getD k Q_.zero);rw[<-p] at n;have B:=n 0 _ rfl;rw[M_] at B;have q:=Kz p;clear n p;cases s:(A.name.toList == a.toList)
   .go_wp2
    go_round
    case rel=>
     refine⟨k+1,E5,F3,Kz λj f=>?_⟩;by_cases e:j=k
     .rw[e,<-q.o];exact kD s
     .exact h.o j E5
    case measure=>simp[intOf];omega
   .go_wp2
    go_ret
    exact⟨⟨k,rfl,.inl ⟨k,m,rfl,Dw m (by rw[<-q.o];exact fA s) h.o,by rw[<-q.o];exact fA s⟩⟩,c⟩
  .go_wp2
   go_ret
   exact⟨⟨-1,rfl,.inr ⟨rfl,Be λj f=>h.o j E5⟩⟩,c⟩
theorem Tryz.kX :(prog.info? 80).map (·.size)=some 2:=F4
theorem bu{P:Program}{e:Func}{R:Ending->NI->Prop}{a:Act}{p q:Tmp}{c:TypeId}{b:Nat}(cs:List NJ)(d:TypeDesc)(v:NJ)(h:e.results= #[.cell p c,.tmp q])
 (f:a.tmps.getD p undef= .c b) (i:w.rangeAt b 0 cs) (j:P.underlying c=some d) (k:d.isRow=true) (hi:(P.info? c).map (·.size)=some cs.length)
 (l:a.tmps.getD q undef=v) (m:a.defers=[]) (n:R (.returned (.tuple #[.agg cs.toArray,v])) w):bodyPost P e R .ret a w:=by
 refine bodyPost_ret ?_ m n;have r:a.tmps[p]?.getD undef= .c b:=by simpa using f
 have s:a.tmps[q]?.getD undef=v:=by simpa using l
 simp only[results,h];simp[r,s,asAddr,run_loadVar_mid w b 0 c cs d i j k hi]
theorem K_.lQ{w1:NI}(k:K_ w w1){i:Nat}(v:NJ):K_ w (w1.setCell ⟨w.heap.size,i,none⟩ v):=Below.setCell k (p:=⟨w.heap.size,i,none⟩) (Me _) v
theorem Zj{b c o p:Nat}(h:b≠c){v:NJ}:(w.setCell ⟨c,p,none⟩ v).cell? ⟨b,o,none⟩=w.cell? ⟨b,o,none⟩:=ME _ _ _ _ (λe=>h (congrArg Addr.block e).symm)
def Ic(Kq:List Qz)(l:List Q_)(n:NG)(e:Ending):Prop:=
 ∃(f:Bool) (t:NG) (ok:Bool),e= .returned (.tuple #[.agg #[.bool f,.string t],.bool ok])/\bH (Kk Kq) (Qq l) n= (if ok=true then some ⟨f,t⟩ else none)/\(ok=false->f=false/\t= ⟨#[]⟩)
theorem uF(w:NI)(x:Nat)(a:NH)(G:Nat)(s:List Qz)(d:NH)(H:Nat)(l:List Q_)(n:NG)(a0:s.length<=1048576)(a1:l.length<=1048576)(hn:n.size<=1000)(c:gQ w x a s.length G d l.length H)(hN:bT w a s)(N:cB w d l):
  Calls prog 36 #[.c x,.string n] w λe w'=>Ic s l n e/\K_ w w':=by
 have f:K_ w (w.alloc (.cells #[.bool false,.string ⟨#[]⟩] 80)):=ah _ _;have b0:=c.row.lt;have q0:=(c.kept f).web;have I:=(c.kept f).row.lt;go_enter func36,ntmps36
 go_wp2_with fail
 refine (fF _ a G s n a0 (hN.kept f)).mono ?_;rintro e b ⟨⟨b1,rfl,hr⟩,k⟩;have p:Hid (aD b w.heap.size 80 2):=(aD.made w #[.bool false,.string ⟨#[]⟩] 80).kept k;obtain⟨⟨_,O⟩,P⟩:=p.o.row.at (i:=0) E5;obtain⟨⟨_,Q⟩,R⟩:=p.o.row.at (i:=1) E5;have S:=p.o.lt;clear q0 I;rcases hr with⟨a2,hk,rfl,z,_⟩|⟨rfl,z⟩
 .have b2:¬(a2:Int)<0:=E5;have J:=(c.kept f).kept k;have B:=(N.kept f).kept k;have A:=Kz z;clear z;go_wp2_with fail
  refine (GZ b x a s.length G d H l n a1 J B).mono ?_;rintro e w2 ⟨⟨r2,rfl,a3⟩,T⟩;rw[T];clear T w2;rcases a3 with⟨q,U,rfl,t,_⟩|⟨rfl,t⟩
  .have b3:¬(q:Int)<0:=E5;have b4:(q:Int)<(l.length:Int):=E5;obtain⟨y,K⟩:=aj (l.getD q Q_.zero);rw[<-K] at t;obtain⟨C,o,_,_,rfl,b5,_⟩:=N q U;obtain⟨b6,o1,xa,xc,V,hb,v,_,_⟩:=B q U;simp only[MV,ND,and_true] at V;obtain⟨rfl,rfl⟩:=V;rw[<-K] at v;have W:=v 1 _ rfl;have c2:=v 2 _ rfl;have c3:=v 3 _ rfl;have I:=J.runs;have qz:=J.row.lt;have⟨D,HC⟩:=aH t v;clear K v t B;cases E:y.over
   .rw[E] at W;go_wp2_with fail
    have r:=Mi b w.heap.size 0 [.bool false,.string ⟨#[]⟩] (p.o.row.there (o:=0) (m:=2) (Me _));refine bu [.bool false,.string ⟨#[]⟩] _ (.bool false) results36 rfl r underlying80 rfl Tryz.kX rfl rfl ?_;exact⟨⟨false,⟨#[]⟩,false,rfl,by unfold bH;rw[A.o,D.o];simp[E],λ_=>⟨rfl,rfl⟩⟩,((f.trans k).lQ _).lQ _⟩
   .rw[E] at W;go_upto_region 6 with fail
    refine Qk.region F4 (λw'=>w'.cell? ⟨x,1,none⟩=some (.slice (some ⟨C,o,none⟩) l.length H)/\w'.cell? ⟨C,o+q*7+2,none⟩=some (.bool y.fail)/\w'.cell? ⟨C,o+q*7+3,none⟩=some (.string y.text)) 18 ⟨I,c2,c3⟩ (λj=>?_);have a4:b.drew.cell? ⟨w.heap.size,0,none⟩=some _:=O;have a5:b.drew.cell? ⟨w.heap.size,1,none⟩=some _:=Q;have a6:b.drew.frozen? ⟨w.heap.size,0,none⟩=false:=P;have a7:b.drew.frozen? ⟨w.heap.size,1,none⟩=false:=R;have a8:w.heap.size<b.drew.heap.size:=S;have L:K_ b b.drew:=aV _;have X:=Kz (p.o.kept L);have Y:=k.trans L;generalize a9:b.drew=wd at j a4 a5 a6 a7 a8 X Y⊢;clear a9 L O Q P R S;refine au 0 j ?_;refine au 4 j ?_;refine au 8 j ?_;refine au 12 j ?_;refine ae 16 j ?_;have Z:x≠w.heap.size:=E5;have F:C≠w.heap.size:=E5;refine ai 17 (λM c=>?_);go_simp
    refine af c (λ_=>⟨by rw[Zj Z,Zj Z];exact j.1,by rw[Zj F,Zj F];exact j.2.1,by rw[Zj F,Zj F];exact j.2.2⟩) ?_;clear c M;refine ai 18 (λM c=>?_);go_simp
    refine af c (λh=>Nv rfl h) ?_;clear c M;refine aF ?_;go_wp2_with fail
    have r:=Mi wd w.heap.size 0 [.bool y.fail,.string y.text] (X.o.row.there (o:=0) (m:=2) (Me _));refine bu [.bool y.fail,.string y.text] _ (.bool true) results36 rfl r underlying80 rfl Tryz.kX rfl rfl ?_;exact⟨⟨y.fail,y.text,true,rfl,by unfold bH;rw[A.o,D.o];simp[E],λh=>by cases h⟩,((f.trans Y).lQ _).lQ _⟩
  .have D:=Kz t;clear t B;go_wp2_with fail
   have r:=Mi b w.heap.size 0 [.bool false,.string ⟨#[]⟩] (p.o.row.there (o:=0) (m:=2) (Me _));refine bu [.bool false,.string ⟨#[]⟩] _ (.bool false) results36 rfl r underlying80 rfl Tryz.kX rfl rfl ?_;exact⟨⟨false,⟨#[]⟩,false,rfl,by unfold bH;rw[A.o,D.o];rfl,λ_=>⟨rfl,rfl⟩⟩,((f.trans k).lQ _).lQ _⟩
 .have A:=Kz z;clear z;have f3:¬9223372036854775807<3+n.size:=E5;go_wp2_with fail
  have r:=Mi b w.heap.size 0 [.bool true,.string ((⟨#[110,111,32]⟩:NG)++n)] (p.o.row.there (o:=0) (m:=2) (Me _));refine bu [.bool true,.string ((⟨#[110,111,32]⟩:NG)++n)] _ (.bool true) results36 rfl r underlying80 rfl Tryz.kX rfl rfl ?_;exact⟨⟨true,wK n,true,rfl,by unfold bH;rw[A.o];rfl,λh=>by cases h⟩,((f.trans k).lQ _).lQ _⟩
theorem CZ(w:NI)(c:Nat)(a:NH)(f:Nat)(b:List Qz)(d:NH)(h:Nat)(l:List Q_)(n:NG)(i:b.length<=1048576)(j:l.length<=1048576)(k:n.size<=1000)(m:gQ w c a b.length f d l.length h)(p:bT w a b)(q:cB w d l):
  Calls prog 36 #[.c c,.string n] w λe w'=>EP b l n e/\K_ w w':=by
 refine (uF w c a f b d h l n i j k m p q).mono ?_;rintro e w' ⟨⟨r,t,s,v,x,_⟩,y⟩;exact⟨⟨r,t,s,v,x⟩,y⟩
def aR(a b:NG):Prop:=Op.bytesLess a.toList b.toList=true
theorem aX(a:NG):¬aR a a:=λh=>by unfold aR at h;rw[dO] at h;cases h
theorem fU{a b c:NG}(h:aR a b)(g:aR b c):aR a c:=eY _ _ _ h g
theorem eQ{a b:NG}(h:aR a b):¬aR b a:=λg=>aX a (fU h g)
theorem dJ{a b:NG}(h:aR a b):a≠b:=λe=>by rw[e] at h;exact aX b h
theorem eT(a b:NG):aR a b\/a=b\/aR b a:=by
 unfold aR;cases h:Op.bytesLess a.toList b.toList with
 | true=>exact .inl rfl
 | false=>
  by_cases e:a=b
  .exact .inr (.inl e)
  .exact .inr (.inr (qC _ _ h λc=>e (toList_inj.1 c)))
def df(l:List Q_):Prop:=l.Pairwise λx y=>aR x.name y.name
variable {l : List Q_} {r : Q_}
theorem aY{n:NG}(h:Qq l n=some r):r∈l/\r.name=n:=by
 unfold Qq at h;exact⟨List.mem_of_find?_eq_some h,by simpa using List.find?_some h⟩
theorem bJ(h:df l)(a:r∈l):Qq l r.name=some r:=by
 induction l with
 | nil=>cases a
 | cons x l ih=>
  rw[df,NC] at h;rcases Na.1 a with rfl|a
  .simp[Qq]
  .have c:x.name≠r.name:=dJ (h.1 r a);have e:Qq (x :: l) r.name=Qq l r.name:=by simp[Qq,List.find?,c]
   rw[e];exact ih h.2 a
theorem EY :∀{l l':List Q_},df l->df l'->(∀r,r∈l↔r∈l')->l=l'
 | [],[],_,_,_=>rfl
 | [],y :: ys,_,_,h=>by have:=(h y).2 E9;cases this
 | x :: xs,[],_,_,h=>by have:=(h x).1 E9;cases this
 | x :: xs,y :: ys,hl,hl',h=>by
  rw[df,NC] at hl hl';have c:x=y:=by
   rcases Na.1 ((h x).1 E9) with e|d
   .exact e
   .rcases Na.1 ((h y).2 E9) with e|f
    .exact e.symm
    .exact Nv (hl.1 y f) (eQ (hl'.1 x d))
  subst c;rw[EY hl.2 hl'.2 λr=>?_];constructor
  .intro a;rcases Na.1 ((h r).1 (MB _ a)) with rfl|b
   .exact Nv (hl.1 r a) (aX _)
   .exact b
  .intro a;rcases Na.1 ((h r).2 (MB _ a)) with rfl|b
   .exact Nv (hl'.1 r a) (aX _)
   .exact b
theorem xq{a:List Q_}(h:df l)(d:df a)(e:Qq l=Qq a):l=a:=by
 refine EY h d λr=>⟨λb=>?_,λb=>?_⟩
 .have:=bJ h b;rw[e] at this;exact (aY this).1
 .have:=bJ d b;rw[<-e] at this;exact (aY this).1
theorem pG(d:∀x∈l,∀y∈l,x.name=y.name->x=y){n:NG}:Qq l n=some r↔r∈l/\r.name=n:=by
 refine⟨aY,λ⟨b,c⟩=>?_⟩;cases h:Qq l n with
 | none=>
  unfold Qq at h;rw[List.find?_eq_none] at h;exact Nv (by simpa using c) (h r b)
 | some x=>
  obtain⟨e,f⟩:=aY h;rw[d x e r b (f.trans c.symm)]
theorem qZ(h:df l):∀x∈l,∀y∈l,x.name=y.name->x=y:=λx c y d e=>by
 have b:=bJ h c;have f:=bJ h d;rw[e,f] at b;exact (Ng b).symm
def cZ(l:List Q_)(r:Q_):List Q_:=(l.filter λx=>Op.bytesLess x.name.toList r.name.toList)++r :: l.filter λx=>Op.bytesLess r.name.toList x.name.toList
theorem oG(h:df l):df (cZ l r):=by
 unfold cZ;rw[df,MK];refine⟨h.filter _, ?_,λx e y a=>?_⟩
 .rw[NC];exact⟨λy a=>(List.mem_filter.1 a).2,h.filter _⟩
 .have c:aR x.name r.name:=(List.mem_filter.1 e).2;rcases Na.1 a with rfl|a
  .exact c
  .exact fU c (List.mem_filter.1 a).2
theorem rC{x:Q_}:x∈cZ l r↔x=r\/(x∈l/\x.name≠r.name):=by
 unfold cZ;rw[Mo,Na,List.mem_filter,List.mem_filter];constructor
 .rintro (⟨a,b⟩|h|⟨a,b⟩)
  .exact .inr ⟨a,dJ b⟩
  .exact .inl h
  .exact .inr ⟨a,Ne.symm (dJ b)⟩
 .rintro (h|⟨a,b⟩)
  .exact .inr (.inl h)
  .rcases eT x.name r.name with c|c|c
   .exact .inl ⟨a,c⟩
   .exact Nv c b
   .exact .inr (.inr ⟨a,c⟩)
theorem vT(h:df l)(n:NG):Qq (cZ l r) n=if n=r.name then some r else Qq l n:=by
 have c:=qZ (oG (r:=r) h);by_cases e:n=r.name
 .rw[Nt e];exact (pG c).2 ⟨(rC).2 (.inl rfl),e.symm⟩
 .rw[Nu e];cases d:Qq l n with
  | some x=>
   obtain⟨b,a⟩:=aY d;exact (pG c).2 ⟨(rC).2 (.inr ⟨b,λf=>e (a.symm.trans f)⟩),a⟩
  | none=>
   cases i:Qq (cZ l r) n with
   | none=>rfl
   | some x=>
    obtain⟨b,a⟩:=aY i;rcases (rC).1 b with rfl|⟨j,_⟩
    .exact Nv a.symm e
    .have:=(pG (qZ h)).2 ⟨j,a⟩;rw[d] at this;cases this
theorem jP :∀(l t:List Q_),df t->(∀x∈l,∀y∈l,x.name=y.name->x=y)->df (l.foldl cZ t)/\∀n,Qq (l.foldl cZ t) n=match Qq l n with | some r=>some r | none=>Qq t n
 | [],t,h,_=>⟨h,λn=>rfl⟩
 | x :: l,t,h,hd=>by
  obtain⟨c,d⟩:=jP l (cZ t x) (oG h) (λa f i j=>hd a (MB _ f) i (MB _ j));refine⟨c,λn=>?_⟩;show Qq (l.foldl cZ (cZ t x)) n=_;rw[d n];by_cases e:x.name=n
  .have b:Qq (x :: l) n=some x:=by simp[Qq,e]
   rw[b];cases k:Qq l n with
   | some r=>
    obtain⟨m,p⟩:=aY k;simp only;rw[hd r (MB _ m) x E9 (p.trans e.symm)]
   | none=>
    simp only;rw[vT h,Nt e.symm]
  .have b:Qq (x :: l) n=Qq l n:=by simp[Qq,List.find?,e]
   rw[b];cases Qq l n with
   | some r=>rfl
   | none=>
    simp only;rw[vT h,Nu (Ne.symm e)]
def qB(r:Q_)(p:List Q_×Bool)(x:Q_):List Q_×Bool:=if p.2=false/\Op.bytesLess x.name.toList r.name.toList=false then (p.1++ [r],true) else p
def xU(r:Q_)(p:List Q_×Bool)(x:Q_):List Q_×Bool:=if (x.name.toList == r.name.toList)=true then p else (p.1++ [x],p.2)
def sF(r:Q_)(p:List Q_×Bool)(x:Q_):List Q_×Bool:=xU r (qB r p x) x
def sW(l:List Q_)(r:Q_)(k:Nat):List Q_×Bool:=(l.take k).foldl (sF r) ([],false)
theorem FJ(l:List Q_)(r:Q_):sW l r 0= ([],false):=rfl
theorem za{k:Nat}(h:k<l.length):sW l r (k+1)=sF r (sW l r k) (l.getD k Q_.zero):=by
 unfold sW;rw[Ml h,List.foldl_append];simp[List.getD,h]
theorem Ih(r:Q_)(p:List Q_×Bool)(x:Q_):(sF r p x).1.length+ (if (sF r p x).2=true then 0 else 1)<=p.1.length+ (if p.2=true then 0 else 1)+1:=by
 unfold sF xU qB;obtain⟨o,d⟩:=p;cases d <;> cases Op.bytesLess x.name.toList r.name.toList <;> cases (x.name.toList == r.name.toList) <;> simp <;> omega
theorem BB{l:List Q_}{r:Q_}:∀{k:Nat},k<=l.length->(sW l r k).1.length+ (if (sW l r k).2=true then 0 else 1)<=k+1
 | 0,_=>by rw[FJ];simp
 | k+1,h=>by
  have a:=BB (l:=l) (r:=r) (k:=k) E5;have b:=Ih r (sW l r k) (l.getD k Q_.zero);rw[za E5];omega
def zZ(r:Q_)(p:List Q_×Bool):List Q_:=if p.2=true then p.1 else p.1++ [r]
theorem Ct(r:Q_):∀(l acc:List Q_),l.foldl (sF r) (acc,true)= (acc++l.filter (λx=>!(x.name.toList == r.name.toList)),true)
 | [],acc=>E9
 | x :: l,acc=>by
  rw[List.foldl_cons];have e:sF r (acc,true) x= (acc++ (if (x.name.toList == r.name.toList)=true then [] else [x]),true):=by
   unfold sF xU qB;cases (x.name.toList == r.name.toList) <;> simp
  rw[e,Ct r l];cases h:(x.name.toList == r.name.toList) <;> simp[h]
theorem Bw(r:Q_):∀(l acc:List Q_),df l->zZ r (l.foldl (sF r) (acc,false))=acc++cZ l r
 | [],acc,_=>by simp[zZ,cZ]
 | x :: l,acc,i=>by
  have j:=i;rw[df,NC] at j;rw[List.foldl_cons];cases e:Op.bytesLess x.name.toList r.name.toList with
  | true=>
   have n:(x.name.toList == r.name.toList)=false:=by
    rw[beq_eq_false_iff_ne];intro f;exact dJ (a:=x.name) (b:=r.name) e (toList_inj.1 f)
   have p:Op.bytesLess r.name.toList x.name.toList=false:=by
    cases k:Op.bytesLess r.name.toList x.name.toList with
    | false=>rfl
    | true=>exact Nv k (eQ (a:=x.name) (b:=r.name) e)
   have f:sF r (acc,false) x= (acc++ [x],false):=by simp[sF,xU,qB,e,n]
   rw[f,Bw r l _ j.2];simp[cZ,e,p]
  | false=>
   have m:∀y∈x :: l,Op.bytesLess y.name.toList r.name.toList=false:=by
    intro y h;rcases Na.1 h with rfl|h
    .exact e
    .cases k:Op.bytesLess y.name.toList r.name.toList with
     | false=>rfl
     | true=>
      have:=fU (j.1 y h) (show aR y.name r.name from k);unfold aR at this;rw[e] at this;cases this
   have q:(x :: l).filter (λy=>Op.bytesLess y.name.toList r.name.toList)=[]:=by
    rw[List.filter_eq_nil_iff];intro y h;rw[m y h];simp
   have s:(x :: l).filter (λy=>Op.bytesLess r.name.toList y.name.toList)= (x :: l).filter (λy=>!(y.name.toList == r.name.toList)):=by
    refine List.filter_congr λy h=>?_
    rcases eT r.name y.name with d|d|d
    .have t:(y.name.toList == r.name.toList)=false:=by
      rw[beq_eq_false_iff_ne];intro f;exact dJ d (toList_inj.1 f).symm
     unfold aR at d;rw[d,t]
     rfl
    .rw[d,dO];simp
    .unfold aR at d;rw[m y h] at d;cases d
   have f:sF r (acc,false) x= (acc++ [r]++ (if (x.name.toList == r.name.toList)=true then [] else [x]),true):=by
    unfold sF xU qB;cases (x.name.toList == r.name.toList) <;> simp[e]
   rw[f,Ct];unfold zZ cZ;rw[q,s];cases i:(x.name.toList == r.name.toList) <;> simp[i]
theorem JB(h:df l):zZ r (sW l r l.length)=cZ l r:=by
 unfold sW;rw[MN,Bw r l [] h,List.nil_append]
theorem oO(w:NI)(give:NG)(a:NH)(I:Nat)(l:List NG)(J:give.size<=maxLen)(K:l.length<=maxLen)(A:∀s∈l,s.size<=maxLen)(L:Strs w a l):
  Calls prog 125 #[.string give,.slice a l.length I] w λe w'=>e= .returned (.string (mY give l))/\K_ w w':=by
 unfold maxLen at J K A;by_cases Z:(give.size:Int)<=30
 .by_cases h2:(l.length:Int)<=100
  .go_enter func125,ntmps125
   go_wp2
   go_loop [5,6] (λx i=>∃(k:Nat) (b:NG),k<=l.length/\i= .a k/\x= .string b/\b.data.toList=give.data.toList++40 :: Lib.join ((texts l).take k) [44]/\(∀j,j<k->(l.getD j ByteArray.empty).size<=200)/\b.size<=31+k*201) (λ_ i=>l.length-(intOf i).toNat)
   case atStart=>exact⟨0,_,Mg _,rfl,rfl,by rw[fM];simp[Lib.join_nil],λj p=>aO p,by have e:(⟨#[40]⟩:NG).size=1:=rfl;rw[ByteArray.size_append,e];omega⟩
   case round=>
    obtain⟨k,b,hk,rfl,rfl,q,p,B⟩:=hrel;have⟨f,y⟩:=aH q p;clear q p;by_cases h:k<l.length
    .obtain⟨g,o,rfl,a0,hc⟩:=L k h;have a1:=A (l.getD k ByteArray.empty) (by simp[List.getD,h]);generalize C:l.getD k ByteArray.empty=M at *;have r:=Kz C;clear C;by_cases h3:(M.size:Int)<=200
     .by_cases h4:(0:Int)<k
      .go_wp2
       go_round
       case rel=>
        have t:=oI (texts l) k (by rw[jJ];exact h);rw[xB l k h,r.o,Nt E5] at t;refine⟨k+1,_,E5,F3,rfl, ?_,λj p=>?_, ?_⟩
        .rw[t];simp only[fM,f.o];simp
        .by_cases e:j=k
         .subst e;rw[r.o];omega
         .exact y.o j E5
        .simp only[ByteArray.size_append];have:(⟨#[44]⟩:NG).size=1:=rfl;omega
       case measure=>simp[intOf];omega
      .go_wp2
       go_round
       case rel=>
        have t:=oI (texts l) k (by rw[jJ];exact h);rw[xB l k h,r.o,Nu E5] at t;refine⟨k+1,_,E5,F3,rfl, ?_,λj p=>?_, ?_⟩
        .rw[t];simp only[fM,f.o];simp
        .by_cases e:j=k
         .subst e;rw[r.o];omega
         .exact y.o j E5
        .simp only[ByteArray.size_append];have:(⟨#[44]⟩:NG).size=1:=rfl;omega
       case measure=>simp[intOf];omega
     .go_wp2
      go_ret
      exact⟨lF (jV (.inr (.inr ⟨k,h,by rw[r.o];omega⟩))).symm,K_.refl _⟩
    .have N:k=l.length:=E5;have D:Hid ((b++ ⟨#[41]⟩).data.toList=jI give.data.toList (texts l)):=by
      show _=_;rw[fM,f.o,N,<-jJ,MN];simp[jI]
     have E:Hid (pF give l):=⟨E5,E5,λi hi=>y.o i E5⟩;have O:(b++ ⟨#[41]⟩:NG).size=b.size+1:=by rw[ByteArray.size_append];rfl
     by_cases P:(b.size:Int)+1<=200
     .go_wp2
      go_ret
      exact⟨lF (xw E.o D.o E5).symm,K_.refl _⟩
     .go_wp2
      have a2:(b++ ⟨#[41]⟩:NG).size<=100000:=E5;have Q:200<(b++ ⟨#[41]⟩:NG).size:=E5;clear O P B f;generalize (b++ ⟨#[41]⟩:NG)=c at *;go_loop [7,8] (λv i=>∃k:Nat,k<=c.size/\i= .a k/\v= .int .u64 ((c.data.toList.take k).foldl dS 14695981039346656037)) (λ_ i=>c.size-(intOf i).toNat)
      case atStart=>exact⟨0,Mg _,rfl,rfl⟩
      case round=>
       obtain⟨m,hm,rfl,rfl⟩:=hrel;by_cases R:m<c.size
       .have F:m<c.data.toList.length:=by simpa using R
        have S:Hid ((c.data.toList.take (m+1)).foldl dS 14695981039346656037=dS ((c.data.toList.take m).foldl dS 14695981039346656037) c[m]):=by
         have e:=rZ c.data.toList m F;rw[List.getD_eq_getElem?_getD,Mj F,Nw] at e;exact e
        generalize (c.data.toList.take m).foldl dS 14695981039346656037=v at *;go_wp2
        go_round
        case rel=>exact⟨m+1,E5,F3,by rw[S.o];rw[zJ];rfl⟩
        case measure=>simp[intOf];omega
       .have T:m=c.data.toList.length:=F6;subst T;rw[MN];have U:=rT c.data.toList;have z:Hid (mY give l= ⟨(35 :: jA 16 (sumOf c.data.toList).toNat).toArray⟩):=zH E.o D.o Q;unfold sumOf at U z;generalize List.foldl dS 14695981039346656037 c.data.toList=V at *;obtain⟨v,rfl⟩:∃v:Nat,V=v:=⟨V.toNat,E5⟩;rw[Int.toNat_natCast] at z;go_wp2
        go_loop [7,9,10] (λx d i=>∃(k:Nat) (b:NG),k<=16/\i= .a k/\x= .int .u64 ((v / 16 ^ k:Nat):Int)/\d= .string b/\b.data.toList=jA k v) (λ_ _ i=>16-(intOf i).toNat)
        case atStart=>exact⟨0,ByteArray.empty,Mg _,rfl,E9,rfl,rfl⟩
        case round=>
         obtain⟨n,b,hn,rfl,rfl,rfl,q⟩:=hrel;have f:=Kz q;clear q;have B:b.size<=16:=by have:=congrArg List.length f.o;rw[iC] at this;simp at this;omega
         by_cases a3:(n:Int)<16
         .have W:(v / 16 ^ n) % 16<16:=Nat.mod_lt _ E5;have G:v / 16 ^ n / 16=v / 16 ^ (n+1):=by rw[Nat.div_div_eq_div_mul,Nat.pow_succ]
          have X:=Kz G;clear G;have a4:v / 16 ^ n<18446744073709551616:=Nat.lt_of_le_of_lt (Nat.div_le_self _ _) E5;generalize H:v / 16 ^ n=u at *;have Y:=Kz H;clear H;go_wp2
          go_round
          case rel=>
           refine⟨n+1,_,E5,F3,by rw[<-X.o];simp,rfl, ?_⟩;rw[fM,JE _ W,f.o,jA,Y.o]
           rfl
          case measure=>simp[intOf];omega
         .go_wp2
          go_ret
          obtain rfl:n=16:=E5;exact⟨lF (by rw[z.o];apply Ad;rw[fM,f.o];rfl),K_.refl _⟩
  .go_enter func125,ntmps125
   go_wp2
   go_ret
   exact⟨by rw[jV E5];rfl,K_.refl _⟩
 .go_enter func125,ntmps125
  go_wp2
  go_ret
  exact⟨by rw[jV E5];rfl,K_.refl _⟩
section
variable (E : NG -> NG -> Prop)
inductive RW (g:NG):Nat->NG->Prop
 | one {a:NG} (h:E a g):RW g 1 a
 | step {n:Nat} {a b:NG} (h:E a b) (hb:aR g b) (r:RW g n b):RW g (n+1) a
def d_(g:NG)(n:Nat)(a:NG):Prop:=RW E g n a/\∀m,m<n->¬RW E g m a
def lV(p:NG->Prop)(x:NG):Prop:=p x/\∀y,p y->¬aR y x
inductive lN (g:NG):Nat->NG->List NG->Prop
 | stop (a:NG):lN g 1 a [a]
 | step {n:Nat} {a x:NG} {l:List NG} (h:lV (λy=>E a y/\aR g y/\d_ E g n y) x) (r:lN g n x l):lN g (n+1) a (a :: l)
inductive yY (g:NG):Nat->NG->List NG->Prop
 | stop (a:NG):yY g 1 a [a]
 | step {n:Nat} {a x:NG} {l:List NG} (h:lV (λy=>E a y/\Far E g n y) x) (r:yY g n x l):yY g (n+1) a (a :: l)
def yK(l:List NG):Prop:=
 ((∀x n,1<=n->¬aZ E n x x)/\l=[])\/∃m t,1<=m/\(∀x n,1<=n->aZ E n x x->m<=n)/\lV (λx=>aZ E m x x) t/\yY E t m t l
end
variable {a g : NG} {n : Nat}
section
variable {E : NG -> NG -> Prop}
theorem lV.iff{p q:NG->Prop}(a:∀x,p x↔q x){x:NG}(h:lV p x):lV q x:=⟨(a x).1 h.1,λy d=>h.2 y ((a y).2 d)⟩
theorem RW.pos(h:RW E g n a):1<=n:=by cases h <;> omega
theorem RW.walk(h:RW E g n a):aZ E n a g:=by
 induction h with
 | one h=>exact aZ.one h
 | step h _ _ ih=>exact .step h ih
theorem RW.far :∀{n:Nat} {a:NG},RW E g n a->∃m,m<=n/\d_ E g m a:=by
 intro n
 induction n using Nat.strongRecOn with
 | ind n ih=>
  intro a h;by_cases d:∃m,m<n/\RW E g m a
  .obtain⟨m,b,c⟩:=d;obtain⟨q,f,e⟩:=ih m b c;exact⟨q,E5,e⟩
  .exact⟨n,Me _,h,λm b c=>d ⟨m,b,c⟩⟩
theorem d_.unique{m:Nat}(h:d_ E g n a)(k:d_ E g m a):n=m:=by
 rcases Ns n m with e|e|e
 .exact Nv h.1 (k.2 n e)
 .exact e
 .exact Nv k.1 (h.2 m e)
theorem d_.one :d_ E g 1 a↔E a g:=by
 constructor
 .intro h;generalize e:(1:Nat)=n at h;have c:=h.1;cases c with
  | one h=>exact h
  | step _ _ r=>have:=r.pos;omega
 .intro h;exact⟨.one h,λm i d=>by have:=d.pos;omega⟩
theorem d_.succ(t:1<=n):d_ E g (n+1) a↔(∃b,E a b/\aR g b/\d_ E g n b)/\∀m,m<=n->¬d_ E g m a:=by
 constructor
 .intro h;refine⟨?_,λm i j=>h.2 m E5 j.1⟩;have c:=h.1;generalize v:n+1=w at c;cases c with
  | one h=>omega
  | @step q _ b c hb r=>
   have k:q=n:=E5;subst k;obtain⟨m,f,d⟩:=r.far;rcases Nat.lt_or_ge m q with e|e
   .exact Nv (RW.step c hb d.1) (h.2 (m+1) E5)
   .have:m=q:=E5;subst this;exact⟨b,c,hb,d⟩
 .rintro⟨⟨b,c,f,d⟩,l⟩;refine⟨.step c f d.1,λm i p=>?_⟩;obtain⟨q,x,s⟩:=p.far;exact l q E5 s
theorem d_.levels :∀{n:Nat} {a:NG},d_ E g n a->∃l:List NG,l.length=n/\(∀x∈l,∃y,E x y)/\(∀i (hi:i<l.length),d_ E g (i+1) l[i]):=by
 intro n
 induction n with
 | zero=>intro a h;have:=h.1.pos;omega
 | succ n ih=>
  intro a h;have d:∃y,E a y:=by
   have e:=h.1;cases e with
   | one h=>exact⟨_,h⟩
   | step h _ _=>exact⟨_,h⟩
  by_cases k:n=0
  .subst k;exact⟨[a],rfl,λx c=>by rw[Mm] at c;rw[c];exact d,λi hi=>by
    simp at hi;subst hi;exact h⟩
  .obtain⟨⟨b,e,_,m⟩,_⟩:=(d_.succ E5).1 h;obtain⟨l,f,p,q⟩:=ih m;refine⟨l++ [a],by simp[f],λx c=>?_,λi hi=>?_⟩
   .rcases Mo.1 c with g|g
    .exact p x g
    .rw[Mm] at g;rw[g];exact d
   .by_cases j:i<l.length
    .rw[List.getElem_append_left j];exact q i j
    .have:i=l.length:=by simp at hi;omega
     subst this;simp only[List.getElem_append_right (Me _),Nat.sub_self,List.getElem_cons_zero];rw[f];exact h
theorem d_.bound(h:d_ E g n a){names:List NG}(d:∀x y,E x y->x∈names):n<=names.length:=by
 obtain⟨r,e,f,b⟩:=h.levels;rw[<-e];refine List.Nodup.length_le_of_subset ?_ (λx i=>by obtain⟨y,j⟩:=f x i;exact d x y j);rw[List.Nodup,Mr];intro k l m p s q;have c:=b k m;rw[q] at c;have:=c.unique (b l p);omega
theorem vE{m:Nat}{t:NG}(f:∀x n,1<=n->aZ E n x x->m<=n)(h:∀x,aZ E m x x->¬aR x t):∀{q j:Nat} {a:NG},j+q=m->aZ E j t a->aZ E q a t->1<=q->RW E t q a:=by
 intro q
 induction q with
 | zero=>intro j a _ _ _ r;omega
 | succ q ih=>
  intro j a s i k _;obtain⟨y,b,c⟩:=k.first
  by_cases l:q=0
  ·subst l;have:=c.zero;subst this;exact .one b
  ·have d:aZ E (j+1) t y:=i.trans (aZ.one b);have p:aZ E m y y:=by
    have:=c.trans d;rw[show q+ (j+1)=m by omega] at this;exact this
   refine .step b ?_ (ih (by omega) d c (by omega));rcases eT t y with e|e|e
   ·exact e
   ·subst e;have:=f t (j+1) (by omega) d;omega
   ·exact Nv e (h y p)
theorem Jb{m:Nat}{t:NG}(d:∀x n,1<=n->aZ E n x x->m<=n)(i:∀x,aZ E m x x->¬aR x t){j q:Nat}(z:j+ (q+1)=m)(k:aZ E j t a)(p:1<=q)(y:NG):(E a y/\aR t y/\d_ E t q y)↔(E a y/\Far E t q y):=by
 constructor
 ·rintro⟨b,c,r⟩;refine⟨b,r.1.walk,fun n l f=>?_⟩;have s:=f.trans (k.trans (aZ.one b));have:=d y (n+ (j+1)) (by omega) s;omega
 ·rintro⟨b,c⟩;have h:aZ E (j+1) t y:=k.trans (aZ.one b);have v:aZ E m y y:=by
   have:=c.1.trans h;rw[show q+ (j+1)=m by omega] at this;exact this
  have w:=vE d i (by omega) h c.1 p;refine⟨b, ?_,w,fun n l f=>c.2 n l f.walk⟩;rcases eT t y with e | e | e
  ·exact e
  ·subst e;have:=d t (j+1) (by omega) h;omega
  ·exact Nv e (i y v)
theorem FV{m:Nat}{t:NG}(d:∀x n,1<=n->aZ E n x x->m<=n)(e:∀x,aZ E m x x->¬aR x t){q:Nat}{l:List NG}(h:lN E t q a l):∀{j:Nat},j+q=m->aZ E j t a->yY E t q a l:=by
 induction h with
 | stop a=>intro j _ _;exact .stop a
 | @step n a x l h r ih=>
  intro j f b;have i:1<=n:=by cases r <;> omega
  have c:=h.iff (Jb d e f b i);exact .step c (ih (j:=j+1) E5 (b.trans (aZ.one c.1.1)))
structure jo (E:NG->NG->Prop) (gs:List NG) (best:List NG):Prop where
 no:best=[]->∀g∈gs,∀n,¬d_ E g n g
 yes:best≠[]->∃g n,g∈gs/\d_ E g n g/\lN E g n g best/\best.length=n/\(∀h∈gs,∀k,d_ E h k h->n<=k/\(aR h g->n<k))
theorem jo.Lm{C D:List NG}(h:jo E C D)(S:∀x y,E x y->x∈C):yK E D:=by
 by_cases I:∀x n,1<=n->¬aZ E n x x
 .refine .inl ⟨I, ?_⟩;by_cases p:D=[]
  .exact p
  .obtain⟨g,n,_,q,_⟩:=h.yes p;exact Nv q.1.walk (I g n q.1.pos)
 .obtain⟨m,N,T,A⟩:∃m,1<=m/\(∃x,aZ E m x x)/\∀x n,1<=n->aZ E n x x->m<=n:=by
   have U:∃n,∃x,1<=n/\aZ E n x x:=by
    by_cases F:∃n,∃x,1<=n/\aZ E n x x
    .exact F
    .exact Nv (λx n i c=>F ⟨n,x,i,c⟩) I
   have:∀n,(∃x,1<=n/\aZ E n x x)->∃m,1<=m/\(∃x,aZ E m x x)/\∀x n,1<=n->aZ E n x x->m<=n:=by
    intro n
    induction n using Nat.strongRecOn with
    | ind n ih=>
     rintro⟨x,i,c⟩;by_cases O:∃k,k<n/\∃x,1<=k/\aZ E k x x
     .obtain⟨k,d,J⟩:=O;exact ih k d J
     .exact⟨n,i,⟨x,c⟩,λy k d J=>by
       rcases Nat.lt_or_ge k n with e|e
       .exact Nv ⟨k,e,y,d,J⟩ O
       .exact e⟩
   obtain⟨n,G⟩:=U;exact this n G
  have B:∀x,aZ E m x x->x∈C:=λx H=>by
   obtain⟨P,rfl⟩:∃P,m=P+1:=⟨m-1,E5⟩;obtain⟨b,p,_⟩:=H.first
   exact S x b p
  obtain⟨t,f⟩:∃t,lV (λx=>aZ E m x x) t:=by
   obtain⟨x,H⟩:=T;have V:∀(l:List NG) (r:NG->Prop),(∃y∈l,r y)->∃t∈l,r t/\∀y∈l,r y->¬aR y t:=by
    intro l r
    induction l with
    | nil=>rintro⟨y,s,_⟩;cases s
    | cons z l ih=>
     rintro⟨y,s,Q⟩;by_cases v:∃y∈l,r y
     .obtain⟨t,i,c,d⟩:=ih v;by_cases K:r z/\aR z t
      .refine⟨z,E9,K.1,λu a w=>?_⟩;rcases Na.1 a with rfl | a
       .exact aX u
       .exact λL=>d u a w (fU L K.2)
      .refine⟨t,MB _ i,c,λu a w=>?_⟩;rcases Na.1 a with rfl | a
       .exact λL=>K ⟨w,L⟩
       .exact d u a w
     .have:y=z:=by
       rcases Na.1 s with e|e
       .exact e
       .exact Nv ⟨y,e,Q⟩ v
      subst this;refine⟨y,E9,Q,λu a w=>?_⟩;rcases Na.1 a with rfl | a
      .exact aX u
      .exact Nv ⟨u,a,w⟩ v
   obtain⟨t,i,c,d⟩:=V C (λx=>aZ E m x x) ⟨x,B x H,H⟩;exact⟨t,c,λy s=>d y (B y s) s⟩
  have M:d_ E t m t:=⟨vE A f.2 (j:=0) E5 (.here t) f.1 N,λn G R=>by
   have:=A t n R.pos R.walk;omega⟩
  have p:D≠[]:=λe=>h.no e t (B t f.1) m M
  obtain⟨g,n,X,q,F,_,v⟩:=h.yes p;have G:n=m:=by
   have i:=(v t (B t f.1) m M).1;have c:=A g n q.1.pos q.1.walk;omega
  subst G;have W:g=t:=by
   rcases eT g t with e|e|e
   .exact Nv e (f.2 g q.1.walk)
   .exact e
   .have:=(v t (B t f.1) n M).2 e;omega
  subst W;exact .inr ⟨n,g,N,A,f,FV A f.2 F (j:=0) E5 (.here g)⟩
end
section
variable {R : Nat -> Nat -> Prop} {src : List Nat}
end
def nS(w:NI):Prop:=3<w.heap.size/\w.cell? ⟨3,15,none⟩=some (.int .u8 4)
theorem nS.kept{w w':NI}(h:nS w)(k:K_ w w'):nS w':=⟨Mf h.1 k.size,by rw[k.cell h.1];exact h.2⟩
theorem JI(w:NI)(h:nS w):Calls prog 234 #[.int .u64 16] w λe w'=>e= .returned (.a 4)/\w'=w:=by
 have b:IntKind.u64.wrap (bits BinOp.and IntKind.u64 16 (IntKind.u64.wrap (-16))*285870213051353865) / 288230376151711744=15:=by decide+kernel
 have c:=h.2;go_enter func234,ntmps234
 go_wp2_with (simp only[b])
 go_ret
 exact⟨rfl,rfl⟩
theorem LH(w:NI)(h:nS w):Calls prog 232 #[.int .u64 16] w λe w'=>e= .returned (.a 4)/\w'=w:=by
 go_enter func232,ntmps232
 go_wp2_with fail
 refine (JI _ h).mono ?_;rintro e b ⟨rfl,rfl⟩;go_wp2
 go_ret
 exact⟨rfl,rfl⟩
