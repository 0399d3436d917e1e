import Derived.Lib.Join
import Derived.Lib.Repeat
import Derived.Test.YtbmhchdegdjfkaaGreatDoorKOTyped
import Derived.Test.YtbmhchdegdjfkaaGreatDoorKVLead
import Derived.Deep.CutRange
import Derived.Test.YtbmhchdegdjfkaaGreatDoorKWSpec
set_option maxRecDepth 100000
set_option maxHeartbeats 25600000
namespace Go.Proofs.YtbmhchdegdjfkaaGreatDoor
open Go.RowKit Go.Proofs.Tryz
def Ig :List UInt8:=[48,49,50,51,52,53,54,55,56,57,97,98,99,100,101,102]
def mW(n:Nat):UInt8:=Ig.getD n 0
def iY :Nat->Nat->List UInt8
 | 0,_=>[]
 | k+1,v=>mW (v / 16 ^ k % 16) :: iY k v
theorem gW :∀k v,(iY k v).length=k
 | 0,_=>rfl
 | k+1,v=>by simp[iY,gW k v]
theorem Ao :∀(k v i:Nat) (h:i<(iY k v).length),(iY k v)[i]=mW (v / 16 ^ (k-1-i) % 16)
 | 0,_,_,h=>aP h
 | k+1,v,0,_=>by simp[iY]
 | k+1,v,i+1,h=>by
  have a:i<(iY k v).length:=by simpa[iY] using h
  have e:k+1-1-(i+1)=k-1-i:=by omega
  rw[e,<-Ao k v i a];simp[iY]
theorem yT(j v:Nat)(h:v<16 ^ j):∀m,iY (m+j) v=List.replicate m 48++iY j v
 | 0=>by simp
 | m+1=>by
  have e:m+1+j= (m+j)+1:=by omega
  rw[e,iY,yT j v h m];have d:v / 16 ^ (m+j)=0:=by
   apply Nat.div_eq_of_lt;exact I_ h (Nat.pow_le_pow_right (by omega) (by omega))
  rw[d]
  rfl
def dE(v:Int)(b:UInt8):Int:=IntKind.u64.wrap (bits BinOp.xor IntKind.u64 v (b.toNat:Int)*1099511628211)
def sumOf(l:List UInt8):Int:=l.foldl dE 14695981039346656037
theorem xu(b:UInt8):IntKind.u64.wrap (b.toNat:Int)= (b.toNat:Int):=by
 have:=b.toNat_lt;rw[IntKind.wrap_u64];omega
theorem uo(v:Int)(b:UInt8):0<=dE v b/\dE v b<18446744073709551616:=by
 unfold dE;rw[IntKind.wrap_u64];omega
theorem mZ :∀(l:List UInt8) (v:Int),0<=v/\v<18446744073709551616->0<=l.foldl dE v/\l.foldl dE v<18446744073709551616
 | [],_,h=>h
 | b :: r,v,_=>mZ r _ (uo v b)
theorem pR(l:List UInt8):0<=sumOf l/\sumOf l<18446744073709551616:=mZ l _ (by omega)
theorem qg(l:List UInt8)(k:Nat)(h:k<l.length):(l.take (k+1)).foldl dE 14695981039346656037=dE ((l.take k).foldl dE 14695981039346656037) (l.getD k 0):=by
 rw[Jf h,List.foldl_append];simp[List.getD,h]
def jk(give:List UInt8)(ts:List (List UInt8)):List UInt8:=give++40 :: (Lib.join ts [44]++ [41])
def lD(give:List UInt8)(ts:List (List UInt8)):List UInt8:=
 if 30<give.length\/100<ts.length\/(∃t∈ts,200<t.length) then []
 else if (jk give ts).length<=200 then jk give ts
 else 35 :: iY 16 (sumOf (jk give ts)).toNat
theorem Gx(a:List (List UInt8))(n:Nat)(h:∀t∈a,t.length<=n):(Lib.join a [44]).length<=a.length*(n+1):=by
 cases a with
 | nil=>simp[Lib.join_nil]
 | cons x r=>
  rw[Lib.join_cons,JH,Lib.joinTail_length];have e:=h x (by simp);have f:Lib.lens r<=r.length*n:=by
   have:∀(q:List (List UInt8)),(∀t∈q,t.length<=n)->Lib.lens q<=q.length*n:=by
    intro q
    induction q with
    | nil=>intro _;simp[Lib.lens]
    | cons y q ih=>
     intro c;have i:=c y (by simp);have d:=ih (fun t b=>c t (by simp[b]));simp only[Lib.lens,List.map_cons,List.sum_cons,JK,Nat.succ_mul] at d⊢;omega
   exact this r (fun t b=>h t (by simp[b]))
  simp only[JK,List.length_nil,JA,Nat.one_mul];have:(r.length+1)*(n+1)=r.length*n+r.length+n+1:=by rw[Nat.add_mul,Nat.mul_add];omega
  omega
theorem nC(a:List (List UInt8))(k:Nat)(h:k<a.length):
  Lib.join (a.take (k+1)) [44]=Lib.join (a.take k) [44]++ ((if 0<k then [44] else [])++a.getD k []):=by
 cases a with
 | nil=>simp at h
 | cons x r=>
  cases k with
  | zero=>simp[Lib.join_one,Lib.join_nil]
  | succ k=>
   have c:k<r.length:=by simpa using h
   rw[List.take_succ_cons,List.take_succ_cons,Lib.join_cons,Lib.join_cons,Lib.joinTail_take_succ [44] r k (r.getD k []) (by simp[List.getD,c])];simp[List.append_assoc]
def texts(l:List KC):List (List UInt8):=l.map (·.data.toList)
def lX(give:KC)(l:List KC):KC:=⟨(lD give.data.toList (texts l)).toArray⟩
theorem jl(l:List KC):(texts l).length=l.length:=by simp[texts]
theorem uP(l:List KC)(k:Nat)(h:k<l.length):(texts l).getD k []= (l.getD k ByteArray.empty).data.toList:=by simp[texts,List.getD,h]
variable {give : KC} {l : List KC}
theorem jy(h:30<give.size\/100<l.length\/∃i,i<l.length/\200<(l.getD i ByteArray.empty).size):lX give l=ByteArray.empty:=by
 unfold lX lD;rw[Kg]
 ·rfl
 ·rcases h with h|h|⟨i,b,c⟩
  ·left;simpa using h
  ·right;left;simpa[texts] using h
  ·right;right
   refine⟨(l.getD i ByteArray.empty).data.toList, ?_,by simpa using c⟩;simp[texts,List.getD,b];exact⟨_,Ji b,rfl⟩
def nV(give:KC)(l:List KC):Prop:=give.size<=30/\l.length<=100/\∀i,i<l.length->(l.getD i ByteArray.empty).size<=200
theorem nV.not(h:nV give l):¬(30<give.data.toList.length\/100<(texts l).length\/(∃t∈texts l,200<t.length)):=by
 rintro (g|g|⟨t,b,g⟩)
 ·have:=h.1;simp at g;omega
 ·have:=h.2.1;simp[texts] at g;omega
 ·simp only[texts,Ju] at b;obtain⟨x,d,rfl⟩:=b;obtain⟨i,c,rfl⟩:=Jk d;have:=h.2.2 i c;simp[List.getD,c] at this g;omega
variable {b : KC}
theorem uN(h:nV give l)(a:b.data.toList=jk give.data.toList (texts l))(d:b.size<=200):lX give l=b:=by
 unfold lX lD;rw[Kh h.not,Kg (by rw[<-a];simpa using d),<-a]
theorem xn(h:nV give l)(a:b.data.toList=jk give.data.toList (texts l))(d:200<b.size):lX give l= ⟨(35 :: iY 16 (sumOf b.data.toList).toNat).toArray⟩:=by
 unfold lX lD;rw[Kh h.not,Kh (by rw[<-a];simp;omega),<-a]
theorem xQ{a:KC}(h:a.data.toList=b.data.toList):a=b:=by
 cases a;cases b;simp at h;simp[h]
theorem fA(a b:KC):(a++b).data.toList=a.data.toList++b.data.toList:=by simp[ByteArray.data_append]
theorem kG{a:KC}(h:a=b):Ending.returned (.string a)= .returned (.string b):=by rw[h]
theorem Ga(n:Nat)(h:n<16):(((⟨#[48,49,50,51,52,53,54,55,56,57,97,98,99,100,101,102]⟩:KC).extract n 16).extract 0 1).data.toList=[mW n]:=by
 have:∀m:Fin 16,(((⟨#[48,49,50,51,52,53,54,55,56,57,97,98,99,100,101,102]⟩:KC).extract m.val 16).extract 0 1).data.toList=[mW m.val]:=by decide+kernel
 exact this ⟨n,h⟩
structure Q_ where
 name:KC
 over:Bool
 fail:Bool
 text:KC
 at':Int
 Zq:Int
 texts:List KC
def ek(l:List KC)(m:KC):Bool:=l.any fun x=>decide (x=m)
theorem eQ{l:List KC}{m:KC}:ek l m=true↔m∈l:=by simp[ek]
def Q_.fresh(n:KC):Q_:=⟨n,false,false,⟨#[]⟩,0,0,[]⟩
def um(n:KC):KC:=(⟨#[110,111,32]⟩:KC)++n
def eY :KC:=⟨#[115,112,101,110,116]⟩
abbrev Env :=KC->Option Q_
abbrev dQ :=KC->Option dD
variable {n : KC} {σ : Env} {r : Q_}
section
variable (W : dQ)
def bA(σ:Env)(n:KC):Option Xz:=
 match W n with
 | none=>some ⟨true,um n⟩
 | some _=>match σ n with
  | some r=>if r.over=true then some ⟨r.fail,r.text⟩ else none
  | none=>none
def Yz(σ:Env):List KC->Option (List Xz)
 | []=>some []
 | a :: l=>match bA W σ a with
  | none=>none
  | some x=>match Yz σ l with
   | none=>none
   | some y=>some (x :: y)
def stepOf(a:dD)(i:Int):Xq:=a.steps.getD i.toNat Xq.zero
def aL(xs:List Xz):List KC:=(xs.filter fun x=>!x.fail).map (·.text)
def kU :List Xz->Nat->Option Nat
 | [],_=>none
 | x :: l,i=>if x.fail=true then some i else kU l (i+1)
def nk(t:KC)(els:Int):List bD->Int
 | []=>els
 | c :: l=>if c.text=t then c.goto else nk t els l
def bR(s:Xq)(xs:List Xz):bN:=
 match kU xs 0 with
 | some i=>if s.fall= -1 then ⟨0,true,0,ji s i⟩ else ⟨0,false,s.fall,⟨#[]⟩⟩
 | none=>⟨0,false,if xs.length=0 then s.els else nk (lg xs s.on) s.els s.cases,⟨#[]⟩⟩
def bQ(a:dD)(r:Q_):Q_×List KC:=
 (if (stepOf a r.at').fin=true then {r with Zq:=r.Zq+1,over:=true,fail:=(stepOf a r.at').bad,text:=lX (stepOf a r.at').give r.texts} else {r with Zq:=r.Zq+1},(stepOf a r.at').asks)
def Xx(σ:Env)(r:Q_):Q_×List KC:=
 match W r.name with
 | none=>(r,[])
 | some a=>
  if r.Zq=0 then bQ a r else
  match Yz W σ (stepOf a r.at').asks with
  | none=>(r,[])
  | some xs=>
   if r.Zq=20 then ({r with over:=true,fail:=true,text:=eY},[]) else
   if (bR (stepOf a r.at') xs).over=true then ({r with Zq:=r.Zq+1,over:=true,fail:=true,text:=(bR (stepOf a r.at') xs).text},[]) else
   bQ a {r with texts:=r.texts++aL xs,at':=(bR (stepOf a r.at') xs).at'}
def aV(σ:Env)(r:Q_):Prop:=r.over=false/\(r.Zq=0\/∃a xs,W r.name=some a/\Yz W σ (stepOf a r.at').asks=some xs)
def dI(σ:Env)(n:KC):Prop:=∃r,σ n=some r/\aV W σ r
def doX(σ:Env)(n:KC):Env:=
 match σ n with
 | none=>σ
 | some r=>fun m=>if m=n then some (Xx W σ r).1 else
  match σ m with
  | some x=>some x
  | none=>if ek (Xx W σ r).2 m=true/\(W m).isSome=true then some (Q_.fresh m) else none
variable {W}
theorem gG(h:σ n=some r)(k:KC):doX W σ n k=if k=n then some (Xx W σ r).1 else match σ k with | some x=>some x | none=>if ek (Xx W σ r).2 k=true/\(W k).isSome=true then some (Q_.fresh k) else none:=by
 unfold doX;rw[h]
theorem iH{m:KC}(h:m≠n){x:Q_}(a:σ m=some x):doX W σ n m=some x:=by
 unfold doX;cases c:σ n with
 | none=>simpa using a
 | some r=>simp[h,a]
theorem jW(h:σ n=some r):doX W σ n n=some (Xx W σ r).1:=by
 unfold doX;simp[h]
theorem BG{a:KC}{x:Xz}(f:dI W σ n)(h:bA W σ a=some x):bA W (doX W σ n) a=some x:=by
 unfold bA at h⊢;cases c:W a with
 | none=>simpa[c] using h
 | some act=>
  simp only[c] at h⊢;cases b:σ a with
  | none=>simp[b] at h
  | some r=>
   simp only[b] at h;by_cases e:a=n
   ·subst e;obtain⟨j,d,i⟩:=f;rw[b] at d;cases d;rw[Kh (by rw[i.1];simp)] at h;cases h
   ·rw[iH e b];exact h
theorem jO(d:dI W σ n):∀{l:List KC} {xs:List Xz},Yz W σ l=some xs->Yz W (doX W σ n) l=some xs
 | [],_,h=>h
 | a :: l,xs,h=>by
  unfold Yz at h⊢;cases b:bA W σ a with
  | none=>simp[b] at h
  | some x=>
   simp only[b] at h;cases c:Yz W σ l with
   | none=>simp[c] at h
   | some y=>
    simp only[c] at h;rw[BG d b,jO d c];exact h
theorem aV.mono(b:dI W σ n)(h:aV W σ r):aV W (doX W σ n) r:=
 ⟨h.1,h.2.imp id fun ⟨a,d,e,f⟩=>⟨a,d,e,jO b f⟩⟩
theorem mY(e:dI W σ n)(h:aV W σ r):Xx W (doX W σ n) r=Xx W σ r:=by
 unfold Xx;cases f:W r.name with
 | none=>rfl
 | some a=>
  simp only;by_cases c:r.Zq=0
  ·simp[c]
  ·rcases h.2 with b|⟨i,j,b,d⟩
   ·exact Ki b c
   ·rw[f] at b;cases b;simp only[c,if_false];rw[jO e d,d]
theorem pY :nE (dI W) (doX W):=by
 intro σ n m b c f;obtain⟨r,d,l⟩:=c;obtain⟨q,e,h⟩:=f;have c:dI W σ n:=⟨r,d,l⟩;have f:dI W σ m:=⟨q,e,h⟩;have p:doX W σ n m=some q:=iH (Ne.symm b) e;have t:doX W σ m n=some r:=iH b d;refine⟨⟨q,p,h.mono c⟩, ?_⟩;have v:Xx W (doX W σ n) q=Xx W σ q:=mY c h;have w:Xx W (doX W σ m) r=Xx W σ r:=mY f l
 funext k
 have L:doX W (doX W σ n) m k=if k=m then some (Xx W σ q).1 else match doX W σ n k with | some x=>some x | none=>if ek (Xx W σ q).2 k=true/\(W k).isSome=true then some (Q_.fresh k) else none:=by
  rw[gG p,v]
 have R:doX W (doX W σ m) n k=if k=n then some (Xx W σ r).1 else match doX W σ m k with | some x=>some x | none=>if ek (Xx W σ r).2 k=true/\(W k).isSome=true then some (Q_.fresh k) else none:=by
  rw[gG t,w]
 rw[L,R];by_cases i:k=m
 ·subst i;rw[Kg rfl,Kh (Ne.symm b),jW e]
 ·by_cases j:k=n
  ·subst j;rw[Kh b,Kg rfl,jW d]
  ·rw[Kh i,Kh j];have y:doX W σ n k=match σ k with | some x=>some x | none=>if ek (Xx W σ r).2 k=true/\(W k).isSome=true then some (Q_.fresh k) else none:=by
    rw[gG d,Kh j]
   have A:doX W σ m k=match σ k with | some x=>some x | none=>if ek (Xx W σ q).2 k=true/\(W k).isSome=true then some (Q_.fresh k) else none:=by
    rw[gG e,Kh i]
   rw[y,A];cases B:σ k with
   | some x=>rfl
   | none=>
    simp only;by_cases s:ek (Xx W σ r).2 k=true/\(W k).isSome=true
    ·rw[Kg s];by_cases a:ek (Xx W σ q).2 k=true/\(W k).isSome=true
     ·rw[Kg a]
     ·rw[Kh a]
    ·rw[Kh s];by_cases a:ek (Xx W σ q).2 k=true/\(W k).isSome=true
     ·rw[Kg a]
     ·rw[Kh a]
def Behind(p:Q_->Q_->Prop)(G:Env)(σ:Env)(n:KC):Prop:=dI W σ n/\∃r g,σ n=some r/\G n=some g/\p r g
theorem gM(p:Q_->Q_->Prop)(G:Env):nE (Behind (W:=W) p G) (doX W):=by
 intro σ n m a c b;obtain⟨d,e⟩:=pY σ n m a c.1 b.1;obtain⟨q,g,f,h,i⟩:=b.2;exact⟨⟨d,q,g,iH (Ne.symm a) f,h,i⟩,e⟩
theorem fT(i:aV W σ r)(d:(W r.name).isSome=true):((Xx W σ r).1.Zq=r.Zq+1)\/(r.Zq=20/\(Xx W σ r).1.Zq=20/\(Xx W σ r).1.over=true):=by
 unfold Xx;cases e:W r.name with
 | none=>rw[e] at d;cases d
 | some a=>
  simp only;by_cases b:r.Zq=0
  ·left
   simp only[b,if_true];unfold bQ
   split <;> simp[b]
  ·rcases i.2 with c|⟨l,j,c,k⟩
   ·exact Ki c b
   ·rw[e] at c;cases c;simp only[b,if_false,k];by_cases f:r.Zq=20
    ·right
     simp[f]
    ·left
     simp only[f,if_false];by_cases h:(bR (stepOf a r.at') j).over=true
     ·simp[h]
     ·simp only[h];unfold bQ;simp only[Bool.false_eq_true,if_false]
      split <;> simp
theorem bZ :(Xx W σ r).1.name=r.name:=by
 unfold Xx bQ
 repeat' split
 all_goals rfl
end
variable {n : KC} {G σ : Env}
section
variable {W : dQ}
structure Q_.Ok (W:dQ) (n:KC) (r:Q_):Prop where
 name:r.name=n
 web:(W n).isSome=true
 lo:0<=r.Zq
 hi:r.Zq<=20
def WfX(W:dQ)(σ:Env):Prop:=∀n r,σ n=some r->r.Ok W n
theorem Dc{r:Q_}(h:r.Ok W n)(c:aV W σ r):(Xx W σ r).1.Ok W n:=by
 have d:=fT c (by rw[h.name];exact h.web);refine⟨by rw[bZ];exact h.name,h.web, ?_, ?_⟩
 ·have:=h.lo;rcases d with e | ⟨_,e,_⟩ <;> omega
 ·rcases d with e|⟨_,e,_⟩
  ·have:=h.hi;by_cases f:r.Zq=20
   ·exfalso
    have k:(Xx W σ r).1.Zq=r.Zq:=by
     unfold Xx;cases i:W r.name with
     | none=>rfl
     | some a=>
      simp only;rw[Kh (by omega)];rcases c.2 with b|⟨l,m,b,j⟩
      ·omega
      ·rw[i] at b;cases b;simp[j,f]
    omega
   ·omega
  ·omega
theorem Fu(h:WfX W σ)(d:dI W σ n):WfX W (doX W σ n):=by
 intro m x a;obtain⟨r,c,f⟩:=d;rw[gG c] at a;by_cases e:m=n
 ·rw[Kg e] at a;cases a;rw[e];exact Dc (h n r c) f
 ·rw[Kh e] at a;cases b:σ m with
  | some y=>
   rw[b] at a;simp only[JI] at a;subst a;exact h m y b
  | none=>
   rw[b] at a;simp only at a
   split at a
   ·rename_i hc2
    cases a;exact⟨rfl,hc2.2,Int.le_refl _,by show (0:Int)<=20;omega⟩
   ·cases a
def a_(r g:Q_):Prop:=r.Zq<g.Zq\/(r.Zq=g.Zq/\g.over=true/\20<=r.Zq)
def dx(r g:Q_):Prop:=g.over=true\/r.Zq<g.Zq
theorem xm{r g:Q_}(h:a_ r g):dx r g:=by
 rcases h with h|⟨_,h,_⟩
 ·exact .inr h
 ·exact .inl h
theorem zR{p:Q_->Q_->Prop}{τ :Env}{k:Nat}(h:bI (Behind (W:=W) p G) (doX W) σ τ k){r:Q_}(a:σ n=some r)(c:∀g,G n=some g->¬p r g): τ n=some r:=by
 induction h with
 | here s=>exact a
 | step s t i k hi _ ih=>
  refine ih ?_;by_cases e:n=i
  ·subst e;obtain⟨j,g,b,d,f⟩:=hi.2;rw[a] at b;cases b;exact Ki f (c g d)
  ·exact iH e a
theorem xy{p:Q_->Q_->Prop}{τ :Env}{k:Nat}(h:bI (Behind (W:=W) p G) (doX W) σ τ k)(b:WfX W σ){r:Q_}(a:σ n=some r):∃q, τ n=some q/\r.Zq<=q.Zq:=by
 induction h generalizing r with
 | here s=>exact⟨r,a,Int.le_refl _⟩
 | step s t i k hi _ ih=>
  have c:=Fu b hi.1;by_cases e:n=i
  ·subst e;obtain⟨m,d,j⟩:=hi.1;rw[a] at d;cases d;obtain⟨q,l,v⟩:=ih c (jW a);have f:=b n r a;refine⟨q,l, ?_⟩;rcases fT j (by rw[f.name];exact f.web) with e | ⟨e1,e,_⟩ <;> omega
  ·exact ih c (iH e a)
theorem bI.rest{α ι :Type}{ready:α-> ι ->Prop}{step:α-> ι ->α}(b:nE ready step):∀{j k:Nat} {s t u:α},bI ready step s t j->bI ready step s u k->AtEnd ready u->∃m,bI ready step t u m:=by
 intro j
 induction j with
 | zero=>intro k s t u h g _;cases h;exact⟨k,g⟩
 | succ j ih=>
  intro k s t u h g a;cases h with
  | step _ _ i _ hi hr=>
   obtain⟨m,_,c⟩:=g.first b a hi
   exact ih hr c a
theorem Bl{e a:Env}{k:Nat}(t:bI (Behind (W:=W) a_ G) (doX W) e a k)(v:AtEnd (Behind (W:=W) a_ G) a)(w:a=G):∀{j:Nat} {σ τ :Env} {i:Nat},bI (Behind (W:=W) a_ G) (doX W) e σ i->bI (Behind (W:=W) dx G) (doX W) σ τ j->bI (Behind (W:=W) a_ G) (doX W) σ τ j:=by
 intro j
 induction j with
 | zero=>intro σ τ i _ h;cases h;exact .here _
 | succ j ih=>
  intro σ τ i f h;cases h with
  | step _ _ n _ hn hr=>
   have l:Behind (W:=W) a_ G σ n:=by
    obtain⟨m,r,g,b,c,x⟩:=hn;refine⟨m,r,g,b,c, ?_⟩;by_cases d:a_ r g
    ·exact d
    ·exfalso
     obtain⟨B,y⟩:=bI.rest (gM a_ G) f t v;have p:=zR y b (fun C q=>by rw[c] at q;cases q;exact d);rw[w,c] at p;cases p;obtain⟨D,s,A⟩:=m;rw[b] at s;cases s;rcases x with h | h
     ·rw[A.1] at h;cases h
     ·exact d (.inl h)
   exact .step _ _ n _ l (ih (f.snoc l) hr)
theorem sZ{τ :Env}(p: τ =G):∀{j:Nat} {σ:Env},WfX W σ->bI (Behind (W:=W) dx G) (doX W) σ τ j->bI (Behind (W:=W) a_ G) (doX W) σ τ j:=by
 intro j
 induction j with
 | zero=>intro σ _ h;cases h;exact .here _
 | succ j ih=>
  intro σ c h;cases h with
  | step _ _ n _ hn hr=>
   have d:=Fu c hn.1;have q:Behind (W:=W) a_ G σ n:=by
    obtain⟨f,r,g,b,i,s⟩:=hn;refine⟨f,r,g,b,i, ?_⟩;by_cases a:a_ r g
    ·exact a
    ·exfalso
     obtain⟨w,k,t⟩:=f;rw[b] at k;cases k;obtain⟨x,l,y⟩:=xy hr d (jW b);rw[p,i] at l;cases l;have m:=c n r b;rcases s with h|h
     ·rcases fT t (by rw[m.name];exact m.web) with e|⟨e1,e,_⟩
      ·exact a (.inl (by omega))
      ·by_cases v:r.Zq=g.Zq
       ·exact a (.inr ⟨v,h,by omega⟩)
       ·exact a (.inl (by omega))
     ·exact a (.inl h)
   exact .step _ _ n _ q (ih d hr)
theorem Eb{e a c:Env}{k m:Nat}(n:WfX W e)(f:bI (Behind (W:=W) a_ G) (doX W) e a k)(h:AtEnd (Behind (W:=W) a_ G) a)(i:bI (Behind (W:=W) dx G) (doX W) e c m)(p:AtEnd (Behind (W:=W) dx G) c):(a=G↔c=G)/\(a=G->c=a):=by
 have j:AtEnd (Behind (W:=W) a_ G) c:=fun q l=>p q ⟨l.1,by obtain⟨r,g,d,s,t⟩:=l.2;exact⟨r,g,d,s,xm t⟩⟩
 have d:a=G->c=a:=fun b=>(f.unique (gM _ _) h (Bl f h b (.here _) i) j).symm
 refine⟨⟨fun b=>(d b).trans b,fun b=>?_⟩,d⟩;have:=f.unique (gM _ _) h (sZ b n i) j;rw[this];exact b
def kJ :Option Q_->Nat
 | none=>23
 | some r=>if r.over=true then 0 else 22-r.Zq.toNat
def dO(Kq:List KC)(σ:Env):Nat:=(Kq.map fun n=>kJ (σ n)).sum
theorem FE{m:KC}(d:WfX W σ)(f:dI W σ n):kJ (doX W σ n m)<=kJ (σ m)/\(m=n->kJ (doX W σ n m)<kJ (σ m)):=by
 obtain⟨r,a,c⟩:=f;have b:=d n r a;by_cases e:m=n
 ·subst e;have:kJ (doX W σ m m)<kJ (σ m):=by
   rw[jW a,a];have j:=b.lo;have k:=b.hi;show (if (Xx W σ r).1.over=true then 0 else 22-(Xx W σ r).1.Zq.toNat)<(if r.over=true then 0 else 22-r.Zq.toNat);have h:(if r.over=true then 0 else 22-r.Zq.toNat)=22-r.Zq.toNat:=by rw[c.1];rfl
   rw[h];rcases fT c (by rw[b.name];exact b.web) with e|⟨e1,e,eo⟩
   ·split
    ·omega
    ·rw[e];omega
   ·rw[Kg eo];omega
  exact⟨Nat.le_of_lt this,fun _=>this⟩
 ·refine⟨?_,fun i=>Ki i e⟩;rw[gG a,Kh e];cases l:σ m with
  | some x=>exact IZ _
  | none=>
   simp only
   split
   ·show 22-0<=23;omega
   ·exact IZ _
theorem lF(a:WfX W σ)(b:dI W σ n):∀(Kq:List KC),dO Kq (doX W σ n)<=dO Kq σ/\(n∈Kq->dO Kq (doX W σ n)<dO Kq σ)
 | []=>⟨IZ _,fun h=>by cases h⟩
 | m :: l=>by
  obtain⟨i,c⟩:=lF a b l;obtain⟨j,d⟩:=FE (m:=m) a b;have e:dO (m :: l) (doX W σ n)=kJ (doX W σ n m)+dO l (doX W σ n):=by simp[dO]
  have f:dO (m :: l) σ=kJ (σ m)+dO l σ:=by simp[dO]
  rw[e,f];refine⟨by omega,fun h=>?_⟩;rcases JN.1 h with h | h
  ·have:=d h.symm;omega
  ·have:=c h;omega
end
theorem toList_inj{a b:KC}:a.toList=b.toList↔a=b:=by
 refine⟨fun h=>xQ ?_,fun h=>by rw[h]⟩;rw[ByteArray.toList_eq,ByteArray.toList_eq] at h;exact h
theorem kZ{a b:KC}(h:(a.toList == b.toList)=false):a≠b:=fun e=>by rw[e] at h;simp at h
theorem fu{a b:KC}(h:(a.toList == b.toList)=true):a=b:=toList_inj.1 (by simpa using h)
def Q_.zero :Q_:=Q_.fresh ByteArray.empty
def Q_.cells(r:Q_)(xa:KG)(xc:Nat):List KI:=[.string r.name,.bool r.over,.bool r.fail,.string r.text,.int .i64 r.at',.int .i64 r.Zq,.slice xa r.texts.length xc]
theorem Q_.one(r:Q_)(x:KG)(c:Nat):∀u∈r.cells x c,u.oneCell'=true:=by
 intro u a;simp only[Q_.cells,JN,JO,or_false] at a;rcases a with rfl | rfl | rfl | rfl | rfl | rfl | rfl <;> rfl
def bK(w:KH)(a:KG)(l:List Q_):Prop:=
 ∀i,i<l.length->∃b o xa xc,a=some ⟨b,o,none⟩/\b<w.heap.size/\w.rangeAt b (o+i*7) ((l.getD i Q_.zero).cells xa xc)/\Strs w xa (l.getD i Q_.zero).texts/\(xa=none->xc=0)
variable {w : KH}
theorem bK.kept{w':KH}{a:KG}{l:List Q_}(h:bK w a l)(k:K_ w w'):bK w' a l:=by
 intro i c;obtain⟨d,o,e,f,j,b,m,n,p⟩:=h i c;exact⟨d,o,e,f,j,I_ b k.size,k.range b m,n.kept k,p⟩
def Qq(l:List Q_):Env:=fun n=>l.find? fun r=>decide (r.name=n)
variable {n : KC}
theorem sV{l:List Q_}(h:∀j,j<l.length->(l.getD j Q_.zero).name≠n):Qq l n=none:=by
 unfold Qq;rw[List.find?_eq_none];intro r d;obtain⟨j,b,e⟩:=Jk d;have:=h j b;simp only[List.getD,Jd b,e,Kl] at this;simpa using this
theorem xU :∀{l:List Q_} {k:Nat},k<l.length->(l.getD k Q_.zero).name=n->(∀j,j<k->(l.getD j Q_.zero).name≠n)->Qq l n=some (l.getD k Q_.zero)
 | [],_,hk,_,_=>aP hk
 | r :: l,0,_,h,_=>by
  have a:r.name=n:=h;simp[Qq,List.find?,a,List.getD]
 | r :: l,k+1,hk,h,hj=>by
  have b:r.name≠n:=hj 0 (by omega);have e:Qq (r :: l) n=Qq l n:=by simp[Qq,List.find?,b]
  rw[e,xU (k:=k) (by simpa using hk) h (fun j c=>hj (j+1) (by omega))]
  rfl
def Ce(l:List Q_)(n:KC)(r:Int):Prop:=(∃k:Nat,k<l.length/\r= (k:Int)/\Qq l n=some (l.getD k Q_.zero)/\(l.getD k Q_.zero).name=n)\/(r= -1/\Qq l n=none)
def Kk(Kq:List Qz):dQ:=fun n=>(Kq.find? fun d=>decide (d.name=n)).map fun d=>⟨d.cost,d.steps⟩
theorem vV{l:List Qz}(h:∀j,j<l.length->(l.getD j Qz.zero).name≠n):Kk l n=none:=by
 unfold Kk;rw[Option.map_eq_none_iff,List.find?_eq_none];intro r d;obtain⟨j,b,e⟩:=Jk d;have:=h j b;simp only[List.getD,Jd b,e,Kl] at this;simpa using this
theorem ym :∀{l:List Qz} {k:Nat},k<l.length->(l.getD k Qz.zero).name=n->(∀j,j<k->(l.getD j Qz.zero).name≠n)->Kk l n=some ⟨(l.getD k Qz.zero).cost,(l.getD k Qz.zero).steps⟩
 | [],_,hk,_,_=>aP hk
 | r :: l,0,_,h,_=>by
  have a:r.name=n:=h;simp[Kk,List.find?,a,List.getD]
 | r :: l,k+1,hk,h,hj=>by
  have b:r.name≠n:=hj 0 (by omega);have e:Kk (r :: l) n=Kk l n:=by simp[Kk,List.find?,b]
  rw[e,ym (k:=k) (by simpa using hk) h (fun j c=>hj (j+1) (by omega))]
  rfl
def Ho(l:List Qz)(n:KC)(r:Int):Prop:=(∃k:Nat,k<l.length/\r= (k:Int)/\Kk l n=some ⟨(l.getD k Qz.zero).cost,(l.getD k Qz.zero).steps⟩/\(l.getD k Qz.zero).name=n/\∀j,j<k->(l.getD j Qz.zero).name≠n)\/(r= -1/\Kk l n=none)
theorem fI{A:dD}:∀{l:List Qz},Kk l n=some A->∃k,k<l.length/\(l.getD k Qz.zero).name=n/\(∀j,j<k->(l.getD j Qz.zero).name≠n)/\A= ⟨(l.getD k Qz.zero).cost,(l.getD k Qz.zero).steps⟩
 | [],h=>by simp[Kk] at h
 | d :: l,h=>by
  by_cases e:d.name=n
  ·refine⟨0,by simp,e,fun j a=>aP a, ?_⟩;simp[Kk,e] at h;exact h.symm
  ·have b:Kk (d :: l) n=Kk l n:=by simp[Kk,List.find?,e]
   rw[b] at h;obtain⟨k,c,f,i,m⟩:=fI h;refine⟨k+1,by simpa using c,f,fun j a=>?_,m⟩;cases j with
   | zero=>exact e
   | succ j=>exact i j (by omega)
theorem eO{l:List Qz}{k a:Nat}(h:(l.getD k Qz.zero).name=n)(b:∀j,j<k->(l.getD j Qz.zero).name≠n)(g:(l.getD a Qz.zero).name=n)(c:∀j,j<a->(l.getD j Qz.zero).name≠n):k=a:=by
 rcases Ke k a with e|e|e
 ·exact Ki h (c k e)
 ·exact e
 ·exact Ki g (b a e)
def Cv(Kq:List Qz)(l:List Q_)(n:KC)(e:Ending):Prop:=
 ∃(f:Bool) (t:KC) (ok:Bool),e= .returned (.tuple #[.agg #[.bool f,.string t],.bool ok])/\bA (Kk Kq) (Qq l) n=if ok=true then some ⟨f,t⟩ else none
structure iJ (w:KH) (kb:Nat) (a:KG) (n cap:Nat) (d:KG) (m dc:Nat):Prop where
 row:au w kb 140 2
 web:w.cell? ⟨kb,0,none⟩=some (.slice a n cap)
 runs:w.cell? ⟨kb,1,none⟩=some (.slice d m dc)
theorem iJ.kept{w':KH}{c n e m f:Nat}{a d:KG}(h:iJ w c a n e d m f)(k:K_ w w'):iJ w' c a n e d m f:=
 ⟨h.row.kept k,(k.cell h.row.lt).trans h.web,(k.cell h.row.lt).trans h.runs⟩
theorem dG(w:KH)(a:KG)(t:Nat)(l:List Qz)(c:KC)(B:l.length<=1048576)(v:bY w a l):
  Calls prog 44 #[.agg #[.slice a l.length t],.string c] w fun e w'=>(∃r,e= .returned (.int .i64 r)/\Ho l c r)/\K_ w w':=by
 have f:K_ w (w.alloc (.cells #[.slice a l.length t] 25)):=ag _ _;go_enter func44,ntmps44
 go_wp2
 go_loop [5] (fun i=>∃k:Nat,k<=l.length/\i= .int .i64 k/\Hid (∀j,j<k->(l.getD j Qz.zero).name≠c)) (fun i=>l.length-(intOf i).toNat)
 case atStart=>exact⟨0,Ja _,rfl,Kz fun j h=>aP h⟩
 case round=>
  obtain⟨k,C,rfl,d⟩:=hrel;by_cases m:k<l.length
  ·obtain⟨b,o,D,rfl,E,n,F,G,rfl,x⟩:=(v.kept f) k m;obtain⟨y,p⟩:=ah (l.getD k Qz.zero);rw[<-p] at n;have A:=n 0 _ rfl;rw[JM] at A;have q:=Kz p;clear n p x;cases s:(y.name.toList == c.toList)
   ·go_wp2
    go_round
    case rel=>
     refine⟨k+1,by omega,by go_num,Kz fun j h=>?_⟩;by_cases e:j=k
     ·rw[e,<-q.o];exact kZ s
     ·exact d.o j (by omega)
    case measure=>simp[intOf];omega
   ·go_wp2
    go_ret
    exact⟨⟨k,rfl,.inl ⟨k,m,rfl,ym m (by rw[<-q.o];exact fu s) d.o,(by rw[<-q.o];exact fu s),d.o⟩⟩,f⟩
  ·go_wp2
   go_ret
   exact⟨⟨-1,rfl,.inr ⟨rfl,vV fun j h=>d.o j (by omega)⟩⟩,f⟩
theorem Eu(w:KH)(v:Nat)(a:KG)(n y:Nat)(d:KG)(A:Nat)(l:List Q_)(c:KC)(E:l.length<=1048576)(x:iJ w v a n y d l.length A)(B:bK w d l):
  Calls prog 123 #[.pointer (some ⟨v,0,none⟩),.string c] w fun e w'=>(∃r,e= .returned (.int .i64 r)/\Ce l c r)/\w'=w:=by
 have F:=x.runs;have G:=x.row.lt;go_enter func123,ntmps123
 go_wp2
 go_loop [5] (fun i=>∃k:Nat,k<=l.length/\i= .int .i64 k/\Hid (∀j,j<k->(l.getD j Q_.zero).name≠c)) (fun i=>l.length-(intOf i).toNat)
 case atStart=>exact⟨0,Ja _,rfl,Kz fun j f=>aP f⟩
 case round=>
  obtain⟨k,H,rfl,h⟩:=hrel;by_cases m:k<l.length
  ·obtain⟨b,o,I,J,rfl,K,p,_,_⟩:=B k m;obtain⟨C,q⟩:=ah (l.getD k Q_.zero);rw[<-q] at p;have D:=p 0 _ rfl;rw[JM] at D;have s:=Kz q;clear p q;cases t:(C.name.toList == c.toList)
   ·go_wp2
    go_round
    case rel=>
     refine⟨k+1,by omega,by go_num,Kz fun j f=>?_⟩;by_cases e:j=k
     ·rw[e,<-s.o];exact kZ t
     ·exact h.o j (by omega)
    case measure=>simp[intOf];omega
   ·go_wp2
    go_ret
    exact⟨⟨k,rfl,.inl ⟨k,m,rfl,xU m (by rw[<-s.o];exact fu t) h.o,by rw[<-s.o];exact fu t⟩⟩,rfl⟩
  ·go_wp2
   go_ret
   exact⟨⟨-1,rfl,.inr ⟨rfl,sV fun j f=>h.o j (by omega)⟩⟩,rfl⟩
theorem gQ(w:KH)(t:KG)(v x:Nat)(d:KG)(y:Nat)(l:List Q_)(a:KC)(D:l.length<=1048576)(A:bK w d l):
  Calls prog 43 #[.agg #[.slice t v x,.slice d l.length y],.string a] w fun e w'=>(∃r,e= .returned (.int .i64 r)/\Ce l a r)/\K_ w w':=by
 have c:K_ w (w.alloc (.cells #[.slice t v x,.slice d l.length y] 29)):=ag _ _;go_enter func43,ntmps43
 go_wp2
 go_loop [5] (fun i=>∃k:Nat,k<=l.length/\i= .int .i64 k/\Hid (∀j,j<k->(l.getD j Q_.zero).name≠a)) (fun i=>l.length-(intOf i).toNat)
 case atStart=>exact⟨0,Ja _,rfl,Kz fun j f=>aP f⟩
 case round=>
  obtain⟨k,E,rfl,h⟩:=hrel;by_cases m:k<l.length
  ·obtain⟨b,o,F,G,rfl,H,n,_,_⟩:=(A.kept c) k m;obtain⟨B,p⟩:=ah (l.getD k Q_.zero);rw[<-p] at n;have C:=n 0 _ rfl;rw[JM] at C;have q:=Kz p;clear n p;cases s:(B.name.toList == a.toList)
   ·go_wp2
    go_round
    case rel=>
     refine⟨k+1,by omega,by go_num,Kz fun j f=>?_⟩;by_cases e:j=k
     ·rw[e,<-q.o];exact kZ s
     ·exact h.o j (by omega)
    case measure=>simp[intOf];omega
   ·go_wp2
    go_ret
    exact⟨⟨k,rfl,.inl ⟨k,m,rfl,xU m (by rw[<-q.o];exact fu s) h.o,by rw[<-q.o];exact fu s⟩⟩,c⟩
  ·go_wp2
   go_ret
   exact⟨⟨-1,rfl,.inr ⟨rfl,sV fun j f=>h.o j (by omega)⟩⟩,c⟩
theorem Tryz.jX :(prog.info? 173).map (·.size)=some 2:=by kernel_rfl
theorem aU{P:Program}{e:Func}{R:Ending->KH->Prop}{a:Act}{p q:Tmp}{c:TypeId}{b:Nat}(cs:List KI)(d:TypeDesc)(v:KI)(h:e.results= #[.cell p c,.tmp q])
 (i:a.tmps.getD p undef= .pointer (some ⟨b,0,none⟩)) (j:w.rangeAt b 0 cs) (k:P.underlying c=some d) (l:d.isRow=true) (m:(P.info? c).map (·.size)=some cs.length)
 (n:a.tmps.getD q undef=v) (r:a.defers=[]) (s:R (.returned (.tuple #[.agg cs.toArray,v])) w):bodyPost P e R .ret a w:=by
 refine bodyPost_ret ?_ r s;have t:a.tmps[p]?.getD undef= .pointer (some ⟨b,0,none⟩):=by simpa using i
 have x:a.tmps[q]?.getD undef=v:=by simpa using n
 simp only[results,h];simp[t,x,asAddr,run_loadVar_mid w b 0 c cs d j k l m]
theorem K_.kN{w1:KH}(k:K_ w w1){i:Nat}(v:KI):K_ w (w1.setCell ⟨w.heap.size,i,none⟩ v):=Below.setCell k (p:=⟨w.heap.size,i,none⟩) (IZ _) v
theorem Zj{b c o p:Nat}(h:b≠c){v:KI}:(w.setCell ⟨c,p,none⟩ v).cell? ⟨b,o,none⟩=w.cell? ⟨b,o,none⟩:=Jr _ _ _ _ (fun e=>h (congrArg Addr.block e).symm)
def EG(Kq:List Qz)(l:List Q_)(n:KC)(e:Ending):Prop:=
 ∃(f:Bool) (t:KC) (ok:Bool),e= .returned (.tuple #[.agg #[.bool f,.string t],.bool ok])/\bA (Kk Kq) (Qq l) n= (if ok=true then some ⟨f,t⟩ else none)/\(ok=false->f=false/\t= ⟨#[]⟩)
theorem Au(w:KH)(t:Nat)(a:KG)(G:Nat)(q:List Qz)(d:KG)(H:Nat)(l:List Q_)(n:KC)(a0:q.length<=1048576)(a1:l.length<=1048576)(hn:n.size<=1000)(b:iJ w t a q.length G d l.length H)(hN:bY w a q)(N:bK w d l):
  Calls prog 121 #[.pointer (some ⟨t,0,none⟩),.string n] w fun e w'=>EG q l n e/\K_ w w':=by
 have c:K_ w (w.alloc (.cells #[.bool false,.string ⟨#[]⟩] 173)):=ag _ _;have b0:=b.row.lt;have q0:=(b.kept c).web;have I:=(b.kept c).row.lt;go_enter func121,ntmps121
 go_wp2_with fail
 refine (dG _ a G q n a0 (hN.kept c)).mono ?_;rintro e w1 ⟨⟨b1,rfl,hr⟩,h⟩;have j:Hid (au w1 w.heap.size 173 2):=(au.made w #[.bool false,.string ⟨#[]⟩] 173).kept h;obtain⟨⟨_,O⟩,P⟩:=j.o.row.at (i:=0) (by omega);obtain⟨⟨_,Q⟩,R⟩:=j.o.row.at (i:=1) (by omega);have S:=j.o.lt;clear q0 I;rcases hr with⟨a2,hk,rfl,v,_⟩|⟨rfl,v⟩
 ·have b2:¬(a2:Int)<0:=by omega
  have J:=(b.kept c).kept h;have B:=(N.kept c).kept h;have x:=Kz v;clear v;go_wp2_with fail
  refine (Eu w1 t a q.length G d H l n a1 J B).mono ?_;rintro e w2 ⟨⟨r2,rfl,a3⟩,T⟩;rw[T];clear T w2;rcases a3 with⟨k,U,rfl,r,_⟩|⟨rfl,r⟩
  ·have b3:¬(k:Int)<0:=by omega
   have b4:(k:Int)<(l.length:Int):=by omega
   obtain⟨y,K⟩:=ah (l.getD k Q_.zero);rw[<-K] at r;obtain⟨C,o,_,_,rfl,b5,_⟩:=N k U;obtain⟨b6,o1,xa,xc,V,hb,s,_,_⟩:=B k U;simp only[JI,Kv,and_true] at V;obtain⟨rfl,rfl⟩:=V;rw[<-K] at s;have W:=s 1 _ rfl;have c2:=s 2 _ rfl;have c3:=s 3 _ rfl;have I:=J.runs;have qz:=J.row.lt;have⟨D,HC⟩:=aD r s;clear K s r B;cases E:y.over
   ·rw[E] at W;go_wp2_with fail
    have p:=Jc w1 w.heap.size 0 [.bool false,.string ⟨#[]⟩] (j.o.row.there (o:=0) (m:=2) (IZ _));refine aU [.bool false,.string ⟨#[]⟩] _ (.bool false) results121 rfl p underlying173 rfl Tryz.jX rfl rfl ?_;exact⟨⟨false,⟨#[]⟩,false,rfl,by unfold bA;rw[x.o,D.o];simp[E],fun _=>⟨rfl,rfl⟩⟩,((c.trans h).kN _).kN _⟩
   ·rw[E] at W;go_upto_region 6 with fail
    refine Qk.region (by kernel_rfl) (fun w'=>w'.cell? ⟨t,1,none⟩=some (.slice (some ⟨C,o,none⟩) l.length H)/\w'.cell? ⟨C,o+k*7+2,none⟩=some (.bool y.fail)/\w'.cell? ⟨C,o+k*7+3,none⟩=some (.string y.text)) 18 ⟨I,c2,c3⟩ (fun f=>?_);have a4:w1.drew.cell? ⟨w.heap.size,0,none⟩=some _:=O;have a5:w1.drew.cell? ⟨w.heap.size,1,none⟩=some _:=Q;have a6:w1.drew.frozen? ⟨w.heap.size,0,none⟩=false:=P;have a7:w1.drew.frozen? ⟨w.heap.size,1,none⟩=false:=R;have a8:w.heap.size<w1.drew.heap.size:=S;have L:K_ w1 w1.drew:=aG _;have X:=Kz (j.o.kept L);have Y:=h.trans L;generalize a9:w1.drew=wd at f a4 a5 a6 a7 a8 X Y⊢;clear a9 L O Q P R S;refine aB 0 f ?_;refine aB 4 f ?_;refine aB 8 f ?_;refine aB 12 f ?_;refine ae 16 f ?_;have Z:t≠w.heap.size:=by omega
    have F:C≠w.heap.size:=by omega
    refine af 17 (fun M b=>?_);go_simp
    refine b.out _ _ (fun _=>⟨by rw[Zj Z,Zj Z];exact f.1,by rw[Zj F,Zj F];exact f.2.1,by rw[Zj F,Zj F];exact f.2.2⟩) ?_;clear b M;try simp only[Act.put,upA,upB,upC]
    refine af 18 (fun M b=>?_);go_simp
    refine b.out _ _ (fun A=>Ki rfl A) ?_;clear b M;try simp only[Act.put,upA,upB,upC]
    refine ay ?_;go_wp2_with fail
    have p:=Jc wd w.heap.size 0 [.bool y.fail,.string y.text] (X.o.row.there (o:=0) (m:=2) (IZ _));refine aU [.bool y.fail,.string y.text] _ (.bool true) results121 rfl p underlying173 rfl Tryz.jX rfl rfl ?_;exact⟨⟨y.fail,y.text,true,rfl,by unfold bA;rw[x.o,D.o];simp[E],fun A=>by cases A⟩,((c.trans Y).kN _).kN _⟩
  ·have D:=Kz r;clear r B;go_wp2_with fail
   have p:=Jc w1 w.heap.size 0 [.bool false,.string ⟨#[]⟩] (j.o.row.there (o:=0) (m:=2) (IZ _));refine aU [.bool false,.string ⟨#[]⟩] _ (.bool false) results121 rfl p underlying173 rfl Tryz.jX rfl rfl ?_;exact⟨⟨false,⟨#[]⟩,false,rfl,by unfold bA;rw[x.o,D.o];rfl,fun _=>⟨rfl,rfl⟩⟩,((c.trans h).kN _).kN _⟩
 ·have x:=Kz v;clear v;have f3:¬9223372036854775807<3+n.size:=by omega
  go_wp2_with fail
  have p:=Jc w1 w.heap.size 0 [.bool true,.string ((⟨#[110,111,32]⟩:KC)++n)] (j.o.row.there (o:=0) (m:=2) (IZ _));refine aU [.bool true,.string ((⟨#[110,111,32]⟩:KC)++n)] _ (.bool true) results121 rfl p underlying173 rfl Tryz.jX rfl rfl ?_;exact⟨⟨true,um n,true,rfl,by unfold bA;rw[x.o];rfl,fun A=>by cases A⟩,((c.trans h).kN _).kN _⟩
theorem AL(w:KH)(c:Nat)(a:KG)(f:Nat)(b:List Qz)(d:KG)(h:Nat)(l:List Q_)(n:KC)(i:b.length<=1048576)(j:l.length<=1048576)(k:n.size<=1000)(m:iJ w c a b.length f d l.length h)(p:bY w a b)(q:bK w d l):
  Calls prog 121 #[.pointer (some ⟨c,0,none⟩),.string n] w fun e w'=>Cv b l n e/\K_ w w':=by
 refine (Au w c a f b d h l n i j k m p q).mono ?_;rintro e w' ⟨⟨r,t,s,v,x,_⟩,y⟩;exact⟨⟨r,t,s,v,x⟩,y⟩
theorem Tryz.AJ :(prog.info? 173).map (fun i=>(i.zero,i.size,i.bytes))=some (some (.agg #[.bool false,.string ByteArray.empty]),2,24):=by kernel_rfl
def dm(l:List Xz):List KI:=(l.map Xz.cells).flatten
theorem qR(l:List Xz):(dm l).length=l.length*2:=by
 induction l with
 | nil=>rfl
 | cons c r ih=>simp only[dm,List.map_cons,List.flatten_cons,JH,JK] at ih⊢;rw[ih];simp[Xz.cells];omega
theorem nG(l:List Xz)(c:Xz):dm (l++ [c])=dm l++c.cells:=by simp[dm]
theorem oG :∀(l:List Xz) (i j:Nat),i<l.length->j<2->(dm l)[i*2+j]? = ((l.getD i Xz.zero).cells)[j]?
 | [],_,_,h,_=>aP h
 | c :: r,0,j,_,hj=>by
  have e:dm (c :: r)=c.cells++dm r:=rfl;rw[e,Nat.zero_mul,JA,JU (by simpa[Xz.cells] using hj)]
  rfl
 | c :: r,i+1,j,h,hj=>by
  have e:dm (c :: r)=c.cells++dm r:=rfl;have b:c.cells.length=2:=rfl;rw[e,JV (by rw[b];omega),b,show (i+1)*2+j-2=i*2+j by omega,oG r i j (by simpa using h) hj]
  rfl
def Hq(w:KH)(a:KG)(l:List Xz):Prop:=
 l=[]\/∃b cur fr,a=some ⟨b,0,none⟩/\w.heap[b]? =some (Obj.cells cur 173 fr)/\∀i,i<l.length->w.rangeAt b (i*2) (l.getD i Xz.zero).cells
theorem Hq.answers{a:KG}{l:List Xz}(h:Hq w a l):ed w a l:=by
 rcases h with rfl|⟨c,j,k,d,e,f⟩
 ·intro i b;simp at b
 ·exact fun i b=>⟨c,0,d,aN e,by rw[JA];exact f i b⟩
theorem iZ{base:Nat}{v:KI}{n:Nat}{l:List Xz}(h:w.ownsRow base 173 2 v n (dm l)):∃a b,v= .slice a l.length b/\l.length<=b/\Hq w a l:=by
 have e:n=l.length:=by have:=h.1;rw[qR] at this;omega
 subst e;rcases h.2 with⟨rfl,c⟩|⟨g,b,f,rfl,r,k,m,_,_,_⟩
 ·exact⟨none,0,by rw[c],by omega,.inl (Kn c)⟩
 ·refine⟨_,b,rfl,m,.inr ⟨g,f,_,rfl,k,fun i p j u d=>?_⟩⟩;have q:j<2:=by have:=(Je.1 d).1;simpa[Xz.cells] using this
  have:=h.cells (g:=g) rfl (i*2+j) u (by rw[oG l i j p q];exact d);rw[JL,JA] at this;exact this
def bU(a b:KC):Prop:=Op.bytesLess a.toList b.toList=true
theorem bH(a:KC):¬bU a a:=fun h=>by unfold bU at h;rw[dB] at h;cases h
theorem f_{a b c:KC}(h:bU a b)(g:bU b c):bU a c:=dW _ _ _ h g
theorem iR{a b:KC}(h:bU a b):¬bU b a:=fun g=>bH a (f_ h g)
theorem dA{a b:KC}(h:bU a b):a≠b:=fun e=>by rw[e] at h;exact bH b h
theorem iT(a b:KC):bU a b\/a=b\/bU b a:=by
 unfold bU;cases h:Op.bytesLess a.toList b.toList with
 | true=>exact .inl rfl
 | false=>
  by_cases e:a=b
  ·exact .inr (.inl e)
  ·exact .inr (.inr (oJ _ _ h fun c=>e (toList_inj.1 c)))
def cZ(l:List Q_):Prop:=l.Pairwise fun x y=>bU x.name y.name
variable {l : List Q_} {r : Q_}
theorem bC{n:KC}(h:Qq l n=some r):r∈l/\r.name=n:=by
 unfold Qq at h;exact⟨List.mem_of_find?_eq_some h,by simpa using List.find?_some h⟩
theorem bn(h:cZ l)(a:r∈l):Qq l r.name=some r:=by
 induction l with
 | nil=>cases a
 | cons x l ih=>
  rw[cZ,Ku] at h;rcases JN.1 a with rfl|a
  ·simp[Qq]
  ·have c:x.name≠r.name:=dA (h.1 r a);have e:Qq (x :: l) r.name=Qq l r.name:=by simp[Qq,List.find?,c]
   rw[e];exact ih h.2 a
theorem CG :∀{l l':List Q_},cZ l->cZ l'->(∀r,r∈l↔r∈l')->l=l'
 | [],[],_,_,_=>rfl
 | [],y :: ys,_,_,h=>by have:=(h y).2 (by simp);cases this
 | x :: xs,[],_,_,h=>by have:=(h x).1 (by simp);cases this
 | x :: xs,y :: ys,hl,hl',h=>by
  rw[cZ,Ku] at hl hl';have c:x=y:=by
   rcases JN.1 ((h x).1 (by simp)) with e|d
   ·exact e
   ·rcases JN.1 ((h y).2 (by simp)) with e|f
    ·exact e.symm
    ·exact Ki (hl.1 y f) (iR (hl'.1 x d))
  subst c;rw[CG hl.2 hl'.2 fun r=>?_];constructor
  ·intro a;rcases JN.1 ((h r).1 (Jp _ a)) with rfl|b
   ·exact Ki (hl.1 r a) (bH _)
   ·exact b
  ·intro a;rcases JN.1 ((h r).2 (Jp _ a)) with rfl|b
   ·exact Ki (hl'.1 r a) (bH _)
   ·exact b
theorem FB{a:List Q_}(h:cZ l)(d:cZ a)(e:Qq l=Qq a):l=a:=by
 refine CG h d fun r=>⟨fun b=>?_,fun b=>?_⟩
 ·have:=bn h b;rw[e] at this;exact (bC this).1
 ·have:=bn d b;rw[<-e] at this;exact (bC this).1
theorem sH(d:∀x∈l,∀y∈l,x.name=y.name->x=y){n:KC}:Qq l n=some r↔r∈l/\r.name=n:=by
 refine⟨bC,fun ⟨b,c⟩=>?_⟩;cases h:Qq l n with
 | none=>
  unfold Qq at h;rw[List.find?_eq_none] at h;exact Ki (by simpa using c) (h r b)
 | some x=>
  obtain⟨e,f⟩:=bC h;rw[d x e r b (f.trans c.symm)]
theorem oZ(h:cZ l):∀x∈l,∀y∈l,x.name=y.name->x=y:=fun x c y d e=>by
 have b:=bn h c;have f:=bn h d;rw[e,f] at b;exact (JR b).symm
def dz(l:List Q_)(r:Q_):List Q_:=(l.filter fun x=>Op.bytesLess x.name.toList r.name.toList)++r :: l.filter fun x=>Op.bytesLess r.name.toList x.name.toList
theorem ny(h:cZ l):cZ (dz l r):=by
 unfold dz;rw[cZ,Jy];refine⟨h.filter _, ?_,fun x e y a=>?_⟩
 ·rw[Ku];exact⟨fun y a=>(List.mem_filter.1 a).2,h.filter _⟩
 ·have c:bU x.name r.name:=(List.mem_filter.1 e).2;rcases JN.1 a with rfl|a
  ·exact c
  ·exact f_ c (List.mem_filter.1 a).2
theorem pG{x:Q_}:x∈dz l r↔x=r\/(x∈l/\x.name≠r.name):=by
 unfold dz;rw[Jh,JN,List.mem_filter,List.mem_filter];constructor
 ·rintro (⟨a,b⟩|h|⟨a,b⟩)
  ·exact .inr ⟨a,dA b⟩
  ·exact .inl h
  ·exact .inr ⟨a,Ne.symm (dA b)⟩
 ·rintro (h|⟨a,b⟩)
  ·exact .inr (.inl h)
  ·rcases iT x.name r.name with c|c|c
   ·exact .inl ⟨a,c⟩
   ·exact Ki c b
   ·exact .inr (.inr ⟨a,c⟩)
theorem tV(h:cZ l)(n:KC):Qq (dz l r) n=if n=r.name then some r else Qq l n:=by
 have c:=oZ (ny (r:=r) h);by_cases e:n=r.name
 ·rw[Kg e];exact (sH c).2 ⟨(pG).2 (.inl rfl),e.symm⟩
 ·rw[Kh e];cases d:Qq l n with
  | some x=>
   obtain⟨b,a⟩:=bC d;exact (sH c).2 ⟨(pG).2 (.inr ⟨b,fun f=>e (a.symm.trans f)⟩),a⟩
  | none=>
   cases i:Qq (dz l r) n with
   | none=>rfl
   | some x=>
    obtain⟨b,a⟩:=bC i;rcases (pG).1 b with rfl|⟨j,_⟩
    ·exact Ki a.symm e
    ·have:=(sH (oZ h)).2 ⟨j,a⟩;rw[d] at this;cases this
theorem lu :∀(l t:List Q_),cZ t->(∀x∈l,∀y∈l,x.name=y.name->x=y)->cZ (l.foldl dz t)/\∀n,Qq (l.foldl dz t) n=match Qq l n with | some r=>some r | none=>Qq t n
 | [],t,h,_=>⟨h,fun n=>rfl⟩
 | x :: l,t,h,hd=>by
  obtain⟨c,d⟩:=lu l (dz t x) (ny h) (fun a f i j=>hd a (Jp _ f) i (Jp _ j));refine⟨c,fun n=>?_⟩;show Qq (l.foldl dz (dz t x)) n=_;rw[d n];by_cases e:x.name=n
  ·have b:Qq (x :: l) n=some x:=by simp[Qq,e]
   rw[b];cases k:Qq l n with
   | some r=>
    obtain⟨m,p⟩:=bC k;simp only;rw[hd r (Jp _ m) x (by simp) (p.trans e.symm)]
   | none=>
    simp only;rw[tV h,Kg e.symm]
  ·have b:Qq (x :: l) n=Qq l n:=by simp[Qq,List.find?,e]
   rw[b];cases Qq l n with
   | some r=>rfl
   | none=>
    simp only;rw[tV h,Kh (Ne.symm e)]
def oI(r:Q_)(p:List Q_×Bool)(x:Q_):List Q_×Bool:=if p.2=false/\Op.bytesLess x.name.toList r.name.toList=false then (p.1++ [r],true) else p
def ve(r:Q_)(p:List Q_×Bool)(x:Q_):List Q_×Bool:=if (x.name.toList == r.name.toList)=true then p else (p.1++ [x],p.2)
def qA(r:Q_)(p:List Q_×Bool)(x:Q_):List Q_×Bool:=ve r (oI r p x) x
def qK(l:List Q_)(r:Q_)(k:Nat):List Q_×Bool:=(l.take k).foldl (qA r) ([],false)
theorem Dk(l:List Q_)(r:Q_):qK l r 0= ([],false):=rfl
theorem wB{k:Nat}(h:k<l.length):qK l r (k+1)=qA r (qK l r k) (l.getD k Q_.zero):=by
 unfold qK;rw[Jf h,List.foldl_append];simp[List.getD,h]
theorem EJ(r:Q_)(p:List Q_×Bool)(x:Q_):(qA r p x).1.length+ (if (qA r p x).2=true then 0 else 1)<=p.1.length+ (if p.2=true then 0 else 1)+1:=by
 unfold qA ve oI;obtain⟨o,d⟩:=p;cases d <;> cases Op.bytesLess x.name.toList r.name.toList <;> cases (x.name.toList == r.name.toList) <;> simp <;> omega
theorem zn{l:List Q_}{r:Q_}:∀{k:Nat},k<=l.length->(qK l r k).1.length+ (if (qK l r k).2=true then 0 else 1)<=k+1
 | 0,_=>by rw[Dk];simp
 | k+1,h=>by
  have a:=zn (l:=l) (r:=r) (k:=k) (by omega);have b:=EJ r (qK l r k) (l.getD k Q_.zero);rw[wB (by omega)];omega
def xL(r:Q_)(p:List Q_×Bool):List Q_:=if p.2=true then p.1 else p.1++ [r]
theorem Ae(r:Q_):∀(l acc:List Q_),l.foldl (qA r) (acc,true)= (acc++l.filter (fun x=>!(x.name.toList == r.name.toList)),true)
 | [],acc=>by simp
 | x :: l,acc=>by
  rw[List.foldl_cons];have e:qA r (acc,true) x= (acc++ (if (x.name.toList == r.name.toList)=true then [] else [x]),true):=by
   unfold qA ve oI;cases (x.name.toList == r.name.toList) <;> simp
  rw[e,Ae r l];cases h:(x.name.toList == r.name.toList) <;> simp[h]
theorem zi(r:Q_):∀(l acc:List Q_),cZ l->xL r (l.foldl (qA r) (acc,false))=acc++dz l r
 | [],acc,_=>by simp[xL,dz]
 | x :: l,acc,i=>by
  have j:=i;rw[cZ,Ku] at j;rw[List.foldl_cons];cases e:Op.bytesLess x.name.toList r.name.toList with
  | true=>
   have n:(x.name.toList == r.name.toList)=false:=by
    rw[beq_eq_false_iff_ne];intro f;exact dA (a:=x.name) (b:=r.name) e (toList_inj.1 f)
   have p:Op.bytesLess r.name.toList x.name.toList=false:=by
    cases k:Op.bytesLess r.name.toList x.name.toList with
    | false=>rfl
    | true=>exact Ki k (iR (a:=x.name) (b:=r.name) e)
   have f:qA r (acc,false) x= (acc++ [x],false):=by simp[qA,ve,oI,e,n]
   rw[f,zi r l _ j.2];simp[dz,e,p]
  | false=>
   have m:∀y∈x :: l,Op.bytesLess y.name.toList r.name.toList=false:=by
    intro y h;rcases JN.1 h with rfl|h
    ·exact e
    ·cases k:Op.bytesLess y.name.toList r.name.toList with
     | false=>rfl
     | true=>
      have:=f_ (j.1 y h) (show bU y.name r.name from k);unfold bU at this;rw[e] at this;cases this
   have q:(x :: l).filter (fun y=>Op.bytesLess y.name.toList r.name.toList)=[]:=by
    rw[List.filter_eq_nil_iff];intro y h;rw[m y h];simp
   have s:(x :: l).filter (fun y=>Op.bytesLess r.name.toList y.name.toList)= (x :: l).filter (fun y=>!(y.name.toList == r.name.toList)):=by
    refine List.filter_congr fun y h=>?_
    rcases iT r.name y.name with d|d|d
    ·have t:(y.name.toList == r.name.toList)=false:=by
      rw[beq_eq_false_iff_ne];intro f;exact dA d (toList_inj.1 f).symm
     unfold bU at d;rw[d,t]
     rfl
    ·rw[d,dB];simp
    ·unfold bU at d;rw[m y h] at d;cases d
   have f:qA r (acc,false) x= (acc++ [r]++ (if (x.name.toList == r.name.toList)=true then [] else [x]),true):=by
    unfold qA ve oI;cases (x.name.toList == r.name.toList) <;> simp[e]
   rw[f,Ae];unfold xL dz;rw[q,s];cases i:(x.name.toList == r.name.toList) <;> simp[i]
theorem FX(h:cZ l):xL r (qK l r l.length)=dz l r:=by
 unfold qK;rw[JB,zi r l [] h,List.nil_append]
theorem xY(w:KH)(asks:Nat)(on:Int)(cases:Nat)(els fall:Int)(bad:Bool)(give:KC)(j k:KG)(l m:Nat)(n:Int)(p:asks<=maxLen)(h2:cases<=maxLen)(q:give.size<=maxLen):
  Calls prog 122 #[.agg #[.slice j asks l,.int .i64 on,.slice k cases m,.int .i64 els,.int .i64 fall,.bool true,.bool bad,.string give],.int .i64 n] w
   fun e w'=>Says e (asks=0/\on=0/\cases=0/\els=0/\fall=0/\give.size<=30)/\K_ w w':=by
 unfold maxLen at p h2 q;have a:K_ w (w.alloc (.cells #[.slice j asks l,.int .i64 on,.slice k cases m,.int .i64 els,.int .i64 fall,.bool true,.bool bad,.string give] 83)):=ag _ _;cases b:((asks:Int) == 0)
 ·go_enter func122,ntmps122
  go_wp2
  go_ret
  exact⟨Says.no fun h=>by simp at b;omega,a⟩
 ·obtain rfl:asks=0:=by simp at b;omega
  clear b;cases c:(on == 0)
  ·go_enter func122,ntmps122
   go_wp2
   go_ret
   exact⟨Says.no fun h=>by simp at c;omega,a⟩
  ·obtain rfl:on=0:=by simpa using c
   clear c;cases d:((cases:Int) == 0)
   ·go_enter func122,ntmps122
    go_wp2
    go_ret
    exact⟨Says.no fun h=>by simp at d;omega,a⟩
   ·obtain rfl:cases=0:=by simp at d;omega
    clear d;cases f:(els == 0)
    ·go_enter func122,ntmps122
     go_wp2
     go_ret
     exact⟨Says.no fun h=>by simp at f;omega,a⟩
    ·obtain rfl:els=0:=by simpa using f
     clear f;cases i:(fall == 0)
     ·go_enter func122,ntmps122
      go_wp2
      go_ret
      exact⟨Says.no fun h=>by simp at i;omega,a⟩
     ·obtain rfl:fall=0:=by simpa using i
      clear i;by_cases r:(give.size:Int)<=30
      ·go_enter func122,ntmps122
       go_wp2
       go_ret
       exact⟨Says.yes (by simp;omega),a⟩
      ·go_enter func122,ntmps122
       go_wp2
       go_ret
       exact⟨Says.no fun h=>by omega,a⟩
theorem uS(w:KH)(s:Xq)(f i:KG)(j l:Nat)(n:Int)(c:s.Fits)(x:0<=n/\n<=20)
  (m:Strs w f s.asks) (p:jT w i s.cases) (y:s.fin=false) (A:Hid (¬sK s n)):
  Calls prog 122 #[.agg #[.slice f s.asks.length j,.int .i64 s.on,.slice i s.cases.length l,.int .i64 s.els,.int .i64 s.fall,.bool s.fin,.bool s.bad,.string s.give],.int .i64 n] w
   fun e w'=>e= .returned (.bool false)/\K_ w w':=by
 rw[y];obtain⟨L,M⟩:=x;have B:=c.asks;have C:=c.cases;have D:=c.give;unfold maxLen at B C D;have q:=qC s.give;have E:=Kz q;clear q;cases F:s.bad
 ·have b:K_ w (w.alloc (.cells #[.slice f s.asks.length j,.int .i64 s.on,.slice i s.cases.length l,.int .i64 s.els,.int .i64 s.fall,.bool false,.bool false,.string s.give] 83)):=ag _ _;go_enter func122,ntmps122
  go_wp2_with fail
  ·have G:Hid (s.give.size=0):=E.o.1 (by assumption);refine (kC _ f j s.asks c.asks c.dF (m.kept b)).mono ?_;rintro e w1 ⟨k,d⟩;have a:=b.trans d;rcases k.cases with⟨rfl,r⟩|⟨rfl,N⟩
   ·have H:=Kz r;clear r k;obtain⟨O,P⟩:=d.rules;have I:=d.size;simp only[JG] at I;clear b d;have Q:=p.kept a;clear p m;by_cases R:(s.cases.length:Int)<=5
    ·by_cases S:0<=s.els
     ·cases t:decide (s.els<=n-1)
      ·have J:n-1<s.els:=by simpa using t
       go_wp2
       go_ret
       exact⟨rfl,a⟩
      ·have J:s.els<=n-1:=by simpa using t
       by_cases T: -1<=s.fall
       ·cases v:decide (s.fall<=n-1)
        ·have K:n-1<s.fall:=by simpa using v
         go_wp2
         go_ret
         exact⟨rfl,a⟩
        ·have K:s.fall<=n-1:=by simpa using v
         have h:¬(s.on=0\/(0<=s.on/\s.on<s.asks.length)):=fun h=>A.out ⟨F,G.o,by omega,H.o,by omega,⟨by omega,by omega⟩,⟨by omega,by omega⟩,h⟩
         have U:(s.on != 0)=true:=bne_iff_ne.2 (by omega);by_cases V:0<=s.on
         ·have W:s.asks.length-1<s.on:=by omega
          have X:decide (s.on<=(s.asks.length:Int)-1)=false:=by simp;omega
          clear h;go_wp2
          go_ret
          exact⟨rfl,a⟩
         ·clear h;go_wp2
          go_ret
          exact⟨rfl,a⟩
       ·go_wp2
        go_ret
        exact⟨rfl,a⟩
     ·go_wp2
      go_ret
      exact⟨rfl,a⟩
    ·go_wp2
     go_ret
     exact⟨rfl,a⟩
   ·clear k b d;go_wp2
    go_ret
    exact⟨rfl,a⟩
  ·go_ret
   exact⟨rfl,b⟩
  ·go_ret
   exact⟨rfl,b⟩
 ·go_enter func122,ntmps122
  go_wp2
  go_ret
  exact⟨rfl,ag _ _⟩
theorem nL(w:KH)(give:KC)(a:KG)(J:Nat)(l:List KC)(K:give.size<=maxLen)(L:l.length<=maxLen)(B:∀s∈l,s.size<=maxLen)(M:Strs w a l):
  Calls prog 120 #[.string give,.slice a l.length J] w fun e w'=>e= .returned (.string (lX give l))/\K_ w w':=by
 unfold maxLen at K L B;by_cases h1:(give.size:Int)<=30
 ·by_cases h2:(l.length:Int)<=100
  ·go_enter func120,ntmps120
   go_wp2
   go_loop [5,6] (fun x i=>∃(k:Nat) (b:KC),k<=l.length/\i= .int .i64 k/\x= .string b/\b.data.toList=give.data.toList++40 :: Lib.join ((texts l).take k) [44]/\(∀j,j<k->(l.getD j ByteArray.empty).size<=200)/\b.size<=31+k*201) (fun _ i=>l.length-(intOf i).toNat)
   case atStart=>exact⟨0,_,Ja _,rfl,rfl,by rw[fA];simp[Lib.join_nil],fun j p=>aP p,by have e:(⟨#[40]⟩:KC).size=1:=rfl;rw[ByteArray.size_append,e];omega⟩
   case round=>
    obtain⟨k,b,hk,rfl,rfl,q,p,C⟩:=hrel;have⟨f,y⟩:=aD q p;clear q p;by_cases h:k<l.length
    ·obtain⟨g,o,rfl,a0,hc⟩:=M k h;have a1:=B (l.getD k ByteArray.empty) (by simp[List.getD,h]);generalize D:l.getD k ByteArray.empty=N at *;have r:=Kz D;clear D;by_cases h3:(N.size:Int)<=200
     ·by_cases h4:(0:Int)<k
      ·go_wp2
       go_round
       case rel=>
        have t:=nC (texts l) k (by rw[jl];exact h);rw[uP l k h,r.o,Kg (by omega)] at t;refine⟨k+1,_,by omega,by go_num,rfl, ?_,fun j p=>?_, ?_⟩
        ·rw[t];simp only[fA,f.o];simp
        ·by_cases e:j=k
         ·subst e;rw[r.o];omega
         ·exact y.o j (by omega)
        ·simp only[ByteArray.size_append];have:(⟨#[44]⟩:KC).size=1:=rfl;omega
       case measure=>simp[intOf];omega
      ·go_wp2
       go_round
       case rel=>
        have t:=nC (texts l) k (by rw[jl];exact h);rw[uP l k h,r.o,Kh (by omega)] at t;refine⟨k+1,_,by omega,by go_num,rfl, ?_,fun j p=>?_, ?_⟩
        ·rw[t];simp only[fA,f.o];simp
        ·by_cases e:j=k
         ·subst e;rw[r.o];omega
         ·exact y.o j (by omega)
        ·simp only[ByteArray.size_append];have:(⟨#[44]⟩:KC).size=1:=rfl;omega
       case measure=>simp[intOf];omega
     ·go_wp2
      go_ret
      exact⟨kG (jy (.inr (.inr ⟨k,h,by rw[r.o];omega⟩))).symm,K_.refl _⟩
    ·have O:k=l.length:=by omega
     have E:Hid ((b++ ⟨#[41]⟩).data.toList=jk give.data.toList (texts l)):=by
      show _=_;rw[fA,f.o,O,<-jl,JB];simp[jk]
     have F:Hid (nV give l):=⟨by omega,by omega,fun i hi=>y.o i (by omega)⟩;have P:(b++ ⟨#[41]⟩:KC).size=b.size+1:=by rw[ByteArray.size_append];rfl
     by_cases Q:(b.size:Int)+1<=200
     ·go_wp2
      go_ret
      exact⟨kG (uN F.o E.o (by omega)).symm,K_.refl _⟩
     ·go_wp2
      have a2:(b++ ⟨#[41]⟩:KC).size<=100000:=by omega
      have R:200<(b++ ⟨#[41]⟩:KC).size:=by omega
      clear P Q C f;generalize (b++ ⟨#[41]⟩:KC)=c at *;go_loop [7,8] (fun v i=>∃k:Nat,k<=c.size/\i= .int .i64 k/\v= .int .u64 ((c.data.toList.take k).foldl dE 14695981039346656037)) (fun _ i=>c.size-(intOf i).toNat)
      case atStart=>exact⟨0,Ja _,rfl,rfl⟩
      case round=>
       obtain⟨m,hm,rfl,rfl⟩:=hrel;by_cases S:m<c.size
       ·have G:m<c.data.toList.length:=by simpa using S
        have T:Hid ((c.data.toList.take (m+1)).foldl dE 14695981039346656037=dE ((c.data.toList.take m).foldl dE 14695981039346656037) c[m]):=by
         have e:=qg c.data.toList m G;rw[List.getD_eq_getElem?_getD,Jd G,Kl] at e;exact e
        generalize (c.data.toList.take m).foldl dE 14695981039346656037=v at *;go_wp2
        go_round
        case rel=>exact⟨m+1,by omega,by go_num,by rw[T.o];rw[xu];rfl⟩
        case measure=>simp[intOf];omega
       ·have U:m=c.data.toList.length:=by simp;omega
        subst U;rw[JB];have W:=pR c.data.toList;have A:Hid (lX give l= ⟨(35 :: iY 16 (sumOf c.data.toList).toNat).toArray⟩):=xn F.o E.o R;unfold sumOf at W A;generalize List.foldl dE 14695981039346656037 c.data.toList=V at *;obtain⟨v,rfl⟩:∃v:Nat,V=v:=⟨V.toNat,by omega⟩;rw[Int.toNat_natCast] at A;go_wp2
        go_loop [7,9,10] (fun x d i=>∃(k:Nat) (b:KC),k<=16/\i= .int .i64 k/\x= .int .u64 ((v / 16 ^ k:Nat):Int)/\d= .string b/\b.data.toList=iY k v) (fun _ _ i=>16-(intOf i).toNat)
        case atStart=>exact⟨0,ByteArray.empty,Ja _,rfl,by simp,rfl,rfl⟩
        case round=>
         obtain⟨n,b,hn,rfl,rfl,rfl,q⟩:=hrel;have f:=Kz q;clear q;have C:b.size<=16:=by have:=congrArg List.length f.o;rw[gW] at this;simp at this;omega
         by_cases a3:(n:Int)<16
         ·have X:(v / 16 ^ n) % 16<16:=Nat.mod_lt _ (by omega);have H:v / 16 ^ n / 16=v / 16 ^ (n+1):=by rw[Nat.div_div_eq_div_mul,Nat.pow_succ]
          have Y:=Kz H;clear H;have a4:v / 16 ^ n<18446744073709551616:=Nat.lt_of_le_of_lt (Nat.div_le_self _ _) (by omega);generalize I:v / 16 ^ n=u at *;have Z:=Kz I;clear I;go_wp2
          go_round
          case rel=>
           refine⟨n+1,_,by omega,by go_num,by rw[<-Y.o];simp,rfl, ?_⟩;rw[fA,Ga _ X,f.o,iY,Z.o]
           rfl
          case measure=>simp[intOf];omega
         ·go_wp2
          go_ret
          obtain rfl:n=16:=by omega
          exact⟨kG (by rw[A.o];apply xQ;rw[fA,f.o];rfl),K_.refl _⟩
  ·go_enter func120,ntmps120
   go_wp2
   go_ret
   exact⟨by rw[jy (by omega)];rfl,K_.refl _⟩
 ·go_enter func120,ntmps120
  go_wp2
  go_ret
  exact⟨by rw[jy (by omega)];rfl,K_.refl _⟩
theorem yu{a b:KC}(h:(a.toList == b.toList)=true):a=b:=by
 have c:a.toList=b.toList:=by simpa using h
 rw[ByteArray.toList_eq,ByteArray.toList_eq] at c;cases a;cases b;simp at c;rw[c]
theorem jA(w:KH)(a:KG)(p:Nat)(l:List KC)(x:KC)(v:l.length<=1048576)(q:Strs w a l):
  Calls prog 38 #[.slice a l.length p,.string x] w fun e w'=>Says e (x∈l)/\w'=w:=by
 go_enter func38,ntmps38
 go_wp2
 go_loopw [5] (fun i wr=>∃k:Nat,k<=l.length/\i= .int .i64 (k:Int)/\Hid (x∉l.take k)/\wr=w) (fun i _=>l.length-(intOf i).toNat)
 case atStart=>exact⟨0,Ja _,rfl,Kz (by simp),rfl⟩
 case round=>
  obtain⟨k,A,rfl,j,rfl⟩:=hrel;by_cases c:k<l.length
  ·obtain⟨b,o,r,B,s⟩:=q k c;subst r;obtain⟨y,d⟩:=ah (l.getD k ByteArray.empty);rw[<-d] at s;have m:l[k]=y:=by rw[d];simp[List.getD,c]
   have n:=Kz m;have C:(k:Int)<(l.length:Int):=by omega
   clear d m;cases f:(y.toList == x.toList)
   ·go_wp2
    go_roundw
    case rel=>
     refine⟨k+1,by omega,by go_num,Kz (fun h=>?_),trivial⟩;rw[Jf c,n.o] at h;rcases Jh.1 h with h | h
     ·exact j.o h
     ·rw[Jg] at h;rw[h] at f;simp at f
    case measure=>simp[intOf];omega
   ·go_wp2
    go_ret
    exact⟨Says.yes (by rw[<-yu f,<-n.o];exact Ji c),rfl⟩
  ·have D:¬((k:Int)<(l.length:Int)):=by omega
   have t:Hid (x∉l):=by have h:=j.o;rw[JC (by omega)] at h;exact h
   clear c;go_wp2
   go_ret
   exact⟨Says.no t.o,rfl⟩
section
variable (E : KC -> KC -> Prop)
end
section
variable {E : KC -> KC -> Prop}
end
def mO(w:KH):Prop:=3<w.heap.size/\w.cell? ⟨3,15,none⟩=some (.int .u8 4)
theorem mO.kept{w w':KH}(h:mO w)(k:K_ w w'):mO w':=⟨I_ h.1 k.size,by rw[k.cell h.1];exact h.2⟩
theorem Gg(w:KH)(h:mO w):Calls prog 215 #[.int .u64 16] w fun e w'=>e= .returned (.int .i64 4)/\w'=w:=by
 have b:IntKind.u64.wrap (bits BinOp.and IntKind.u64 16 (IntKind.u64.wrap (-16))*285870213051353865) / 288230376151711744=15:=by decide+kernel
 have c:=h.2;go_enter func215,ntmps215
 go_wp2_with (simp only[b])
 go_ret
 exact⟨rfl,rfl⟩
theorem II(w:KH)(h:mO w):Calls prog 213 #[.int .u64 16] w fun e w'=>e= .returned (.int .i64 4)/\w'=w:=by
 go_enter func213,ntmps213
 go_wp2_with fail
 refine (Gg _ h).mono ?_;rintro e w1 ⟨rfl,rfl⟩;go_wp2
 go_ret
 exact⟨rfl,rfl⟩
