import Derived.Lib.Join
import Derived.Lib.Repeat
import Derived.Test.YtbmhchdegdjfkaaGreatDoorKVBfs
import Derived.Deep.CutRange
set_option maxRecDepth 100000
set_option maxHeartbeats 25600000
namespace Go.Proofs.YtbmhchdegdjfkaaGreatDoor
open Go.RowKit Go.Proofs.Tryz
def Jh :List UInt8:=[48,49,50,51,52,53,54,55,56,57,97,98,99,100,101,102]
def ny(n:Nat):UInt8:=Jh.getD n 0
def je :Nat->Nat->List UInt8
 | 0,_=>[]
 | k+1,v=>ny (v / 16 ^ k % 16) :: je k v
theorem gY :∀k v,(je k v).length=k
 | 0,_=>rfl
 | k+1,v=>by simp[je,gY k v]
theorem Bj :∀(k v i:Nat) (h:i<(je k v).length),(je k v)[i]=ny (v / 16 ^ (k-1-i) % 16)
 | 0,_,_,h=>aT h
 | k+1,v,0,_=>by simp[je]
 | k+1,v,i+1,h=>by
  have a:i<(je k v).length:=by simpa[je] using h
  have e:k+1-1-(i+1)=k-1-i:=by omega
  rw[e,<-Bj k v i a];simp[je]
theorem zV(j v:Nat)(h:v<16 ^ j):∀m,je (m+j) v=List.replicate m 48++je j v
 | 0=>by simp
 | m+1=>by
  have e:m+1+j= (m+j)+1:=by omega
  rw[e,je,zV j v h m];have c:v / 16 ^ (m+j)=0:=by
   apply Nat.div_eq_of_lt;exact JQ h (Nat.pow_le_pow_right (by omega) (by omega))
  rw[c]
  rfl
def dL(v:Int)(b:UInt8):Int:=IntKind.u64.wrap (bits BinOp.xor IntKind.u64 v (b.toNat:Int)*1099511628211)
def sumOf(l:List UInt8):Int:=l.foldl dL 14695981039346656037
theorem yj(b:UInt8):IntKind.u64.wrap (b.toNat:Int)= (b.toNat:Int):=by
 have:=b.toNat_lt;rw[IntKind.wrap_u64];omega
theorem ve(v:Int)(b:UInt8):0<=dL v b/\dL v b<18446744073709551616:=by
 unfold dL;rw[IntKind.wrap_u64];omega
theorem nH :∀(l:List UInt8) (v:Int),0<=v/\v<18446744073709551616->0<=l.foldl dL v/\l.foldl dL v<18446744073709551616
 | [],_,h=>h
 | b :: r,v,_=>nH r _ (ve v b)
theorem qH(l:List UInt8):0<=sumOf l/\sumOf l<18446744073709551616:=nH l _ (by omega)
theorem qP(l:List UInt8)(k:Nat)(h:k<l.length):(l.take (k+1)).foldl dL 14695981039346656037=dL ((l.take k).foldl dL 14695981039346656037) (l.getD k 0):=by
 rw[JX h,List.foldl_append];simp[List.getD,h]
def jr(give:List UInt8)(ts:List (List UInt8)):List UInt8:=give++40 :: (Lib.join ts [44]++ [41])
def lT(give:List UInt8)(ts:List (List UInt8)):List UInt8:=
 if 30<give.length\/100<ts.length\/(∃t∈ts,200<t.length) then []
 else if (jr give ts).length<=200 then jr give ts
 else 35 :: je 16 (sumOf (jr give ts)).toNat
theorem Ig(a:List (List UInt8))(n:Nat)(h:∀t∈a,t.length<=n):(Lib.join a [44]).length<=a.length*(n+1):=by
 cases a with
 | nil=>simp[Lib.join_nil]
 | cons x r=>
  rw[Lib.join_cons,KS,Lib.joinTail_length];have e:=h x (by simp);have f:Lib.lens r<=r.length*n:=by
   have:∀(q:List (List UInt8)),(∀t∈q,t.length<=n)->Lib.lens q<=q.length*n:=by
    intro q
    induction q with
    | nil=>intro _;simp[Lib.lens]
    | cons y q ih=>
     intro c;have i:=c y (by simp);have d:=ih (fun t b=>c t (by simp[b]));simp only[Lib.lens,List.map_cons,List.sum_cons,KY,Nat.succ_mul] at d⊢;omega
   exact this r (fun t b=>h t (by simp[b]))
  simp only[KY,List.length_nil,KH,Nat.one_mul];have:(r.length+1)*(n+1)=r.length*n+r.length+n+1:=by rw[Nat.add_mul,Nat.mul_add];omega
  omega
theorem nT(a:List (List UInt8))(k:Nat)(h:k<a.length):
  Lib.join (a.take (k+1)) [44]=Lib.join (a.take k) [44]++ ((if 0<k then [44] else [])++a.getD k []):=by
 cases a with
 | nil=>simp at h
 | cons x r=>
  cases k with
  | zero=>simp[Lib.join_one,Lib.join_nil]
  | succ k=>
   have c:k<r.length:=by simpa using h
   rw[List.take_succ_cons,List.take_succ_cons,Lib.join_cons,Lib.join_cons,Lib.joinTail_take_succ [44] r k (r.getD k []) (by simp[List.getD,c])];simp[List.append_assoc]
def texts(l:List LK):List (List UInt8):=l.map (·.data.toList)
def mZ(give:LK)(l:List LK):LK:=⟨(lT give.data.toList (texts l)).toArray⟩
theorem jv(l:List LK):(texts l).length=l.length:=by simp[texts]
theorem vV(l:List LK)(k:Nat)(h:k<l.length):(texts l).getD k []= (l.getD k ByteArray.empty).data.toList:=by simp[texts,List.getD,h]
variable {give : LK} {l : List LK}
theorem jI(h:30<give.size\/100<l.length\/∃i,i<l.length/\200<(l.getD i ByteArray.empty).size):mZ give l=ByteArray.empty:=by
 unfold mZ lT;rw[Lt]
 ·rfl
 ·rcases h with h|h|⟨i,b,c⟩
  ·left;simpa using h
  ·right;left;simpa[texts] using h
  ·right;right
   refine⟨(l.getD i ByteArray.empty).data.toList, ?_,by simpa using c⟩;simp[texts,List.getD,b];exact⟨_,J_ b,rfl⟩
def oG(give:LK)(l:List LK):Prop:=give.size<=30/\l.length<=100/\∀i,i<l.length->(l.getD i ByteArray.empty).size<=200
theorem oG.not(h:oG give l):¬(30<give.data.toList.length\/100<(texts l).length\/(∃t∈texts l,200<t.length)):=by
 rintro (g|g|⟨t,b,g⟩)
 ·have:=h.1;simp at g;omega
 ·have:=h.2.1;simp[texts] at g;omega
 ·simp only[texts,Ku] at b;obtain⟨x,d,rfl⟩:=b;obtain⟨i,c,rfl⟩:=Kb d;have:=h.2.2 i c;simp[List.getD,c] at this g;omega
variable {b : LK}
theorem vT(h:oG give l)(a:b.data.toList=jr give.data.toList (texts l))(d:b.size<=200):mZ give l=b:=by
 unfold mZ lT;rw[Lu h.not,Lt (by rw[<-a];simpa using d),<-a]
theorem yf(h:oG give l)(a:b.data.toList=jr give.data.toList (texts l))(d:200<b.size):mZ give l= ⟨(35 :: je 16 (sumOf b.data.toList).toNat).toArray⟩:=by
 unfold mZ lT;rw[Lu h.not,Lu (by rw[<-a];simp;omega),<-a]
theorem yK{a:LK}(h:a.data.toList=b.data.toList):a=b:=by
 cases a;cases b;simp at h;simp[h]
theorem fq(a b:LK):(a++b).data.toList=a.data.toList++b.data.toList:=by simp[ByteArray.data_append]
theorem kR{a:LK}(h:a=b):Ending.returned (.string a)= .returned (.string b):=by rw[h]
theorem Hd(n:Nat)(h:n<16):(((⟨#[48,49,50,51,52,53,54,55,56,57,97,98,99,100,101,102]⟩:LK).extract n 16).extract 0 1).data.toList=[ny n]:=by
 have:∀m:Fin 16,(((⟨#[48,49,50,51,52,53,54,55,56,57,97,98,99,100,101,102]⟩:LK).extract m.val 16).extract 0 1).data.toList=[ny m.val]:=by decide+kernel
 exact this ⟨n,h⟩
structure Qz where
 name:LK
 over:Bool
 fail:Bool
 text:LK
 at':Int
 Zj:Int
 texts:List LK
def dW(l:List LK)(m:LK):Bool:=l.any fun x=>decide (x=m)
theorem dY{l:List LK}{m:LK}:dW l m=true↔m∈l:=by simp[dW]
def Qz.fresh(n:LK):Qz:=⟨n,false,false,⟨#[]⟩,0,0,[]⟩
def uY(n:LK):LK:=(⟨#[110,111,32]⟩:LK)++n
def nK :LK:=⟨#[115,112,101,110,116]⟩
abbrev Env :=LK->Option Qz
abbrev fQ :=LK->Option fP
variable {n : LK} {σ : Env} {r : Qz}
section
variable (W : fQ)
def bP(σ:Env)(n:LK):Option Xq:=
 match W n with
 | none=>some ⟨true,uY n⟩
 | some _=>match σ n with
  | some r=>if r.over=true then some ⟨r.fail,r.text⟩ else none
  | none=>none
def Yq(σ:Env):List LK->Option (List Xq)
 | []=>some []
 | a :: l=>match bP W σ a with
  | none=>none
  | some x=>match Yq σ l with
   | none=>none
   | some y=>some (x :: y)
def stepOf(a:fP)(i:Int):Xj:=a.steps.getD i.toNat Xj.zero
def aM(xs:List Xq):List LK:=(xs.filter fun x=>!x.fail).map (·.text)
def ni :List Xq->Nat->Option Nat
 | [],_=>none
 | x :: l,i=>if x.fail=true then some i else ni l (i+1)
def nP(t:LK)(els:Int):List bK->Int
 | []=>els
 | c :: l=>if c.text=t then c.goto else nP t els l
def eY(s:Xj)(xs:List Xq):bW:=
 match ni xs 0 with
 | some i=>if s.fall= -1 then ⟨0,true,0,jq s i⟩ else ⟨0,false,s.fall,⟨#[]⟩⟩
 | none=>⟨0,false,if xs.length=0 then s.els else nP (lD xs s.on) s.els s.cases,⟨#[]⟩⟩
def gU(a:fP)(r:Qz):Qz×List LK:=
 (if (stepOf a r.at').fin=true then {r with Zj:=r.Zj+1,over:=true,fail:=(stepOf a r.at').bad,text:=mZ (stepOf a r.at').give r.texts} else {r with Zj:=r.Zj+1},(stepOf a r.at').asks)
def Y_(σ:Env)(r:Qz):Qz×List LK:=
 match W r.name with
 | none=>(r,[])
 | some a=>
  if r.Zj=0 then gU a r else
  match Yq W σ (stepOf a r.at').asks with
  | none=>(r,[])
  | some xs=>
   if r.Zj=20 then ({r with over:=true,fail:=true,text:=nK},[]) else
   if (eY (stepOf a r.at') xs).over=true then ({r with Zj:=r.Zj+1,over:=true,fail:=true,text:=(eY (stepOf a r.at') xs).text},[]) else
   gU a {r with texts:=r.texts++aM xs,at':=(eY (stepOf a r.at') xs).at'}
def bZ(σ:Env)(r:Qz):Prop:=r.over=false/\(r.Zj=0\/∃a xs,W r.name=some a/\Yq W σ (stepOf a r.at').asks=some xs)
def eD(σ:Env)(n:LK):Prop:=∃r,σ n=some r/\bZ W σ r
def doX(σ:Env)(n:LK):Env:=
 match σ n with
 | none=>σ
 | some r=>fun m=>if m=n then some (Y_ W σ r).1 else
  match σ m with
  | some x=>some x
  | none=>if dW (Y_ W σ r).2 m=true/\(W m).isSome=true then some (Qz.fresh m) else none
variable {W}
theorem ik(h:σ n=some r)(k:LK):doX W σ n k=if k=n then some (Y_ W σ r).1 else match σ k with | some x=>some x | none=>if dW (Y_ W σ r).2 k=true/\(W k).isSome=true then some (Qz.fresh k) else none:=by
 unfold doX;rw[h]
theorem jF{m:LK}(h:m≠n){x:Qz}(a:σ m=some x):doX W σ n m=some x:=by
 unfold doX;cases c:σ n with
 | none=>simpa using a
 | some r=>simp[h,a]
theorem lV(h:σ n=some r):doX W σ n n=some (Y_ W σ r).1:=by
 unfold doX;simp[h]
theorem Cv{a:LK}{x:Xq}(f:eD W σ n)(h:bP W σ a=some x):bP W (doX W σ n) a=some x:=by
 unfold bP at h⊢;cases c:W a with
 | none=>simpa[c] using h
 | some act=>
  simp only[c] at h⊢;cases b:σ a with
  | none=>simp[b] at h
  | some r=>
   simp only[b] at h;by_cases e:a=n
   ·subst e;obtain⟨j,d,i⟩:=f;rw[b] at d;cases d;rw[Lu (by rw[i.1];simp)] at h;cases h
   ·rw[jF e b];exact h
theorem jY(d:eD W σ n):∀{l:List LK} {xs:List Xq},Yq W σ l=some xs->Yq W (doX W σ n) l=some xs
 | [],_,h=>h
 | a :: l,xs,h=>by
  unfold Yq at h⊢;cases b:bP W σ a with
  | none=>simp[b] at h
  | some x=>
   simp only[b] at h;cases c:Yq W σ l with
   | none=>simp[c] at h
   | some y=>
    simp only[c] at h;rw[Cv d b,jY d c];exact h
theorem bZ.mono(b:eD W σ n)(h:bZ W σ r):bZ W (doX W σ n) r:=
 ⟨h.1,h.2.imp id fun ⟨a,d,e,f⟩=>⟨a,d,e,jY b f⟩⟩
theorem nE(e:eD W σ n)(h:bZ W σ r):Y_ W (doX W σ n) r=Y_ W σ r:=by
 unfold Y_;cases f:W r.name with
 | none=>rfl
 | some a=>
  simp only;by_cases c:r.Zj=0
  ·simp[c]
  ·rcases h.2 with b|⟨i,j,b,d⟩
   ·exact Lv b c
   ·rw[f] at b;cases b;simp only[c,if_false];rw[jY e d,d]
theorem qM :nU (eD W) (doX W):=by
 intro σ n m b c f;obtain⟨r,d,l⟩:=c;obtain⟨q,e,h⟩:=f;have c:eD W σ n:=⟨r,d,l⟩;have f:eD W σ m:=⟨q,e,h⟩;have p:doX W σ n m=some q:=jF (Ne.symm b) e;have t:doX W σ m n=some r:=jF b d;refine⟨⟨q,p,h.mono c⟩, ?_⟩;have v:Y_ W (doX W σ n) q=Y_ W σ q:=nE c h;have w:Y_ W (doX W σ m) r=Y_ W σ r:=nE f l
 funext k
 have L:doX W (doX W σ n) m k=if k=m then some (Y_ W σ q).1 else match doX W σ n k with | some x=>some x | none=>if dW (Y_ W σ q).2 k=true/\(W k).isSome=true then some (Qz.fresh k) else none:=by
  rw[ik p,v]
 have R:doX W (doX W σ m) n k=if k=n then some (Y_ W σ r).1 else match doX W σ m k with | some x=>some x | none=>if dW (Y_ W σ r).2 k=true/\(W k).isSome=true then some (Qz.fresh k) else none:=by
  rw[ik t,w]
 rw[L,R];by_cases i:k=m
 ·subst i;rw[Lt rfl,Lu (Ne.symm b),lV e]
 ·by_cases j:k=n
  ·subst j;rw[Lu b,Lt rfl,lV d]
  ·rw[Lu i,Lu j];have y:doX W σ n k=match σ k with | some x=>some x | none=>if dW (Y_ W σ r).2 k=true/\(W k).isSome=true then some (Qz.fresh k) else none:=by
    rw[ik d,Lu j]
   have A:doX W σ m k=match σ k with | some x=>some x | none=>if dW (Y_ W σ q).2 k=true/\(W k).isSome=true then some (Qz.fresh k) else none:=by
    rw[ik e,Lu i]
   rw[y,A];cases B:σ k with
   | some x=>rfl
   | none=>
    simp only;by_cases s:dW (Y_ W σ r).2 k=true/\(W k).isSome=true
    ·rw[Lt s];by_cases a:dW (Y_ W σ q).2 k=true/\(W k).isSome=true
     ·rw[Lt a]
     ·rw[Lu a]
    ·rw[Lu s];by_cases a:dW (Y_ W σ q).2 k=true/\(W k).isSome=true
     ·rw[Lt a]
     ·rw[Lu a]
def Behind(p:Qz->Qz->Prop)(G:Env)(σ:Env)(n:LK):Prop:=eD W σ n/\∃r g,σ n=some r/\G n=some g/\p r g
theorem gH(p:Qz->Qz->Prop)(G:Env):nU (Behind (W:=W) p G) (doX W):=by
 intro σ n m a c b;obtain⟨d,e⟩:=qM σ n m a c.1 b.1;obtain⟨q,g,f,h,i⟩:=b.2;exact⟨⟨d,q,g,jF (Ne.symm a) f,h,i⟩,e⟩
theorem iR(i:bZ W σ r)(d:(W r.name).isSome=true):((Y_ W σ r).1.Zj=r.Zj+1)\/(r.Zj=20/\(Y_ W σ r).1.Zj=20/\(Y_ W σ r).1.over=true):=by
 unfold Y_;cases e:W r.name with
 | none=>rw[e] at d;cases d
 | some a=>
  simp only;by_cases b:r.Zj=0
  ·left
   simp only[b,if_true];unfold gU
   split <;> simp[b]
  ·rcases i.2 with c|⟨l,j,c,k⟩
   ·exact Lv c b
   ·rw[e] at c;cases c;simp only[b,if_false,k];by_cases f:r.Zj=20
    ·right
     simp[f]
    ·left
     simp only[f,if_false];by_cases h:(eY (stepOf a r.at') j).over=true
     ·simp[h]
     ·simp only[h];unfold gU;simp only[Bool.false_eq_true,if_false]
      split <;> simp
theorem eG :(Y_ W σ r).1.name=r.name:=by
 unfold Y_ gU
 repeat' split
 all_goals rfl
end
variable {n : LK} {G σ : Env}
section
variable {W : fQ}
structure Qz.Ok (W:fQ) (n:LK) (r:Qz):Prop where
 name:r.name=n
 web:(W n).isSome=true
 lo:0<=r.Zj
 hi:r.Zj<=20
def WfX(W:fQ)(σ:Env):Prop:=∀n r,σ n=some r->r.Ok W n
theorem DW{r:Qz}(h:r.Ok W n)(c:bZ W σ r):(Y_ W σ r).1.Ok W n:=by
 have d:=iR c (by rw[h.name];exact h.web);refine⟨by rw[eG];exact h.name,h.web, ?_, ?_⟩
 ·have:=h.lo;rcases d with e | ⟨_,e,_⟩ <;> omega
 ·rcases d with e|⟨_,e,_⟩
  ·have:=h.hi;by_cases f:r.Zj=20
   ·exfalso
    have k:(Y_ W σ r).1.Zj=r.Zj:=by
     unfold Y_;cases i:W r.name with
     | none=>rfl
     | some a=>
      simp only;rw[Lu (by omega)];rcases c.2 with b|⟨l,m,b,j⟩
      ·omega
      ·rw[i] at b;cases b;simp[j,f]
    omega
   ·omega
  ·omega
theorem Gs(h:WfX W σ)(d:eD W σ n):WfX W (doX W σ n):=by
 intro m x a;obtain⟨r,c,f⟩:=d;rw[ik c] at a;by_cases e:m=n
 ·rw[Lt e] at a;cases a;rw[e];exact DW (h n r c) f
 ·rw[Lu e] at a;cases b:σ m with
  | some y=>
   rw[b] at a;simp only[KT] at a;subst a;exact h m y b
  | none=>
   rw[b] at a;simp only at a
   split at a
   ·rename_i hc2
    cases a;exact⟨rfl,hc2.2,Int.le_refl _,by show (0:Int)<=20;omega⟩
   ·cases a
def bA(r g:Qz):Prop:=r.Zj<g.Zj\/(r.Zj=g.Zj/\g.over=true/\20<=r.Zj)
def dz(r g:Qz):Prop:=g.over=true\/r.Zj<g.Zj
theorem yc{r g:Qz}(h:bA r g):dz r g:=by
 rcases h with h|⟨_,h,_⟩
 ·exact .inr h
 ·exact .inl h
theorem AB{p:Qz->Qz->Prop}{τ :Env}{k:Nat}(h:bO (Behind (W:=W) p G) (doX W) σ τ k){r:Qz}(a:σ n=some r)(c:∀g,G n=some g->¬p r g): τ n=some r:=by
 induction h with
 | here s=>exact a
 | step s t i k hi _ ih=>
  refine ih ?_;by_cases e:n=i
  ·subst e;obtain⟨j,g,b,d,f⟩:=hi.2;rw[a] at b;cases b;exact Lv f (c g d)
  ·exact jF e a
theorem yn{p:Qz->Qz->Prop}{τ :Env}{k:Nat}(h:bO (Behind (W:=W) p G) (doX W) σ τ k)(b:WfX W σ){r:Qz}(a:σ n=some r):∃q, τ n=some q/\r.Zj<=q.Zj:=by
 induction h generalizing r with
 | here s=>exact⟨r,a,Int.le_refl _⟩
 | step s t i k hi _ ih=>
  have c:=Gs b hi.1;by_cases e:n=i
  ·subst e;obtain⟨m,d,j⟩:=hi.1;rw[a] at d;cases d;obtain⟨q,l,v⟩:=ih c (lV a);have f:=b n r a;refine⟨q,l, ?_⟩;rcases iR j (by rw[f.name];exact f.web) with e | ⟨e1,e,_⟩ <;> omega
  ·exact ih c (jF e a)
theorem bO.rest{α ι :Type}{ready:α-> ι ->Prop}{step:α-> ι ->α}(d:nU ready step):∀{j k:Nat} {s t u:α},bO ready step s t j->bO ready step s u k->AtEnd ready u->∃m,bO ready step t u m:=by
 intro j
 induction j with
 | zero=>intro k s t u h g _;cases h;exact⟨k,g⟩
 | succ j ih=>
  intro k s t u h g c;cases h with
  | step _ _ i _ hi hr=>
   obtain⟨m,_,e⟩:=g.first d c hi
   exact ih hr e c
theorem Cb{e a:Env}{k:Nat}(t:bO (Behind (W:=W) bA G) (doX W) e a k)(v:AtEnd (Behind (W:=W) bA G) a)(w:a=G):∀{j:Nat} {σ τ :Env} {i:Nat},bO (Behind (W:=W) bA G) (doX W) e σ i->bO (Behind (W:=W) dz G) (doX W) σ τ j->bO (Behind (W:=W) bA G) (doX W) σ τ j:=by
 intro j
 induction j with
 | zero=>intro σ τ i _ h;cases h;exact .here _
 | succ j ih=>
  intro σ τ i f h;cases h with
  | step _ _ n _ hn hr=>
   have l:Behind (W:=W) bA G σ n:=by
    obtain⟨m,r,g,b,c,x⟩:=hn;refine⟨m,r,g,b,c, ?_⟩;by_cases d:bA r g
    ·exact d
    ·exfalso
     obtain⟨B,y⟩:=bO.rest (gH bA G) f t v;have p:=AB y b (fun C q=>by rw[c] at q;cases q;exact d);rw[w,c] at p;cases p;obtain⟨D,s,A⟩:=m;rw[b] at s;cases s;rcases x with h | h
     ·rw[A.1] at h;cases h
     ·exact d (.inl h)
   exact .step _ _ n _ l (ih (f.snoc l) hr)
theorem uy{τ :Env}(p: τ =G):∀{j:Nat} {σ:Env},WfX W σ->bO (Behind (W:=W) dz G) (doX W) σ τ j->bO (Behind (W:=W) bA G) (doX W) σ τ j:=by
 intro j
 induction j with
 | zero=>intro σ _ h;cases h;exact .here _
 | succ j ih=>
  intro σ c h;cases h with
  | step _ _ n _ hn hr=>
   have d:=Gs c hn.1;have q:Behind (W:=W) bA G σ n:=by
    obtain⟨f,r,g,b,i,s⟩:=hn;refine⟨f,r,g,b,i, ?_⟩;by_cases a:bA r g
    ·exact a
    ·exfalso
     obtain⟨w,k,t⟩:=f;rw[b] at k;cases k;obtain⟨x,l,y⟩:=yn hr d (lV b);rw[p,i] at l;cases l;have m:=c n r b;rcases s with h|h
     ·rcases iR t (by rw[m.name];exact m.web) with e|⟨e1,e,_⟩
      ·exact a (.inl (by omega))
      ·by_cases v:r.Zj=g.Zj
       ·exact a (.inr ⟨v,h,by omega⟩)
       ·exact a (.inl (by omega))
     ·exact a (.inl h)
   exact .step _ _ n _ q (ih d hr)
theorem EP{e a c:Env}{k j:Nat}(n:WfX W e)(f:bO (Behind (W:=W) bA G) (doX W) e a k)(h:AtEnd (Behind (W:=W) bA G) a)(i:bO (Behind (W:=W) dz G) (doX W) e c j)(p:AtEnd (Behind (W:=W) dz G) c):(a=G↔c=G)/\(a=G->c=a):=by
 have l:AtEnd (Behind (W:=W) bA G) c:=fun q m=>p q ⟨m.1,by obtain⟨r,g,d,s,t⟩:=m.2;exact⟨r,g,d,s,yc t⟩⟩
 have d:a=G->c=a:=fun b=>(f.unique (gH _ _) h (Cb f h b (.here _) i) l).symm
 refine⟨⟨fun b=>(d b).trans b,fun b=>?_⟩,d⟩;have:=f.unique (gH _ _) h (uy b n i) l;rw[this];exact b
def kV :Option Qz->Nat
 | none=>23
 | some r=>if r.over=true then 0 else 22-r.Zj.toNat
def ek(Kq:List LK)(σ:Env):Nat:=(Kq.map fun n=>kV (σ n)).sum
theorem Gz{m:LK}(d:WfX W σ)(f:eD W σ n):kV (doX W σ n m)<=kV (σ m)/\(m=n->kV (doX W σ n m)<kV (σ m)):=by
 obtain⟨r,a,c⟩:=f;have b:=d n r a;by_cases e:m=n
 ·subst e;have:kV (doX W σ m m)<kV (σ m):=by
   rw[lV a,a];have j:=b.lo;have k:=b.hi;show (if (Y_ W σ r).1.over=true then 0 else 22-(Y_ W σ r).1.Zj.toNat)<(if r.over=true then 0 else 22-r.Zj.toNat);have h:(if r.over=true then 0 else 22-r.Zj.toNat)=22-r.Zj.toNat:=by rw[c.1];rfl
   rw[h];rcases iR c (by rw[b.name];exact b.web) with e|⟨e1,e,eo⟩
   ·split
    ·omega
    ·rw[e];omega
   ·rw[Lt eo];omega
  exact⟨Nat.le_of_lt this,fun _=>this⟩
 ·refine⟨?_,fun i=>Lv i e⟩;rw[ik a,Lu e];cases l:σ m with
  | some x=>exact JP _
  | none=>
   simp only
   split
   ·show 22-0<=23;omega
   ·exact JP _
theorem oK(a:WfX W σ)(b:eD W σ n):∀(Kq:List LK),ek Kq (doX W σ n)<=ek Kq σ/\(n∈Kq->ek Kq (doX W σ n)<ek Kq σ)
 | []=>⟨JP _,fun h=>by cases h⟩
 | m :: l=>by
  obtain⟨i,c⟩:=oK a b l;obtain⟨j,d⟩:=Gz (m:=m) a b;have e:ek (m :: l) (doX W σ n)=kV (doX W σ n m)+ek l (doX W σ n):=by simp[ek]
  have f:ek (m :: l) σ=kV (σ m)+ek l σ:=by simp[ek]
  rw[e,f];refine⟨by omega,fun h=>?_⟩;rcases Lb.1 h with h | h
  ·have:=d h.symm;omega
  ·have:=c h;omega
end
theorem toList_inj{a b:LK}:a.toList=b.toList↔a=b:=by
 refine⟨fun h=>yK ?_,fun h=>by rw[h]⟩;rw[ByteArray.toList_eq,ByteArray.toList_eq] at h;exact h
theorem jV{a b:LK}(h:(a.toList == b.toList)=false):a≠b:=fun e=>by rw[e] at h;simp at h
theorem eF{a b:LK}(h:(a.toList == b.toList)=true):a=b:=toList_inj.1 (by simpa using h)
def Qz.zero :Qz:=Qz.fresh ByteArray.empty
def Qz.cells(r:Qz)(xa:LM)(xc:Nat):List LQ:=[.string r.name,.bool r.over,.bool r.fail,.string r.text,.int .i64 r.at',.int .i64 r.Zj,.slice xa r.texts.length xc]
theorem Qz.one(r:Qz)(x:LM)(c:Nat):∀u∈r.cells x c,u.oneCell'=true:=by
 intro u a;simp only[Qz.cells,Lb,Lc,or_false] at a;rcases a with rfl | rfl | rfl | rfl | rfl | rfl | rfl <;> rfl
def bD(w:LP)(a:LM)(l:List Qz):Prop:=
 ∀i,i<l.length->∃b o xa xc,a=some ⟨b,o,none⟩/\b<w.heap.size/\w.rangeAt b (o+i*7) ((l.getD i Qz.zero).cells xa xc)/\Strs w xa (l.getD i Qz.zero).texts/\(xa=none->xc=0)
variable {w : LP}
theorem bD.kept{w':LP}{a:LM}{l:List Qz}(h:bD w a l)(k:K_ w w'):bD w' a l:=by
 intro i c;obtain⟨d,o,e,f,j,b,m,n,p⟩:=h i c;exact⟨d,o,e,f,j,JQ b k.size,k.range b m,n.kept k,p⟩
def Qj(l:List Qz):Env:=fun n=>l.find? fun r=>decide (r.name=n)
variable {n : LK}
theorem zR{l:List Qz}(h:∀j,j<l.length->(l.getD j Qz.zero).name≠n):Qj l n=none:=by
 unfold Qj;rw[List.find?_eq_none];intro r c;obtain⟨j,a,e⟩:=Kb c;have:=h j a;simp only[List.getD,JV a,e,Lx] at this;simpa using this
theorem BZ :∀{l:List Qz} {k:Nat},k<l.length->(l.getD k Qz.zero).name=n->(∀j,j<k->(l.getD j Qz.zero).name≠n)->Qj l n=some (l.getD k Qz.zero)
 | [],_,hk,_,_=>aT hk
 | r :: l,0,_,h,_=>by
  have a:r.name=n:=h;simp[Qj,List.find?,a,List.getD]
 | r :: l,k+1,hk,h,hj=>by
  have b:r.name≠n:=hj 0 (by omega);have e:Qj (r :: l) n=Qj l n:=by simp[Qj,List.find?,b]
  rw[e,BZ (k:=k) (by simpa using hk) h (fun j d=>hj (j+1) (by omega))]
  rfl
def CW(l:List Qz)(n:LK)(r:Int):Prop:=(∃k:Nat,k<l.length/\r= (k:Int)/\Qj l n=some (l.getD k Qz.zero)/\(l.getD k Qz.zero).name=n)\/(r= -1/\Qj l n=none)
def Q_(Kq:List Qq):fQ:=fun n=>(Kq.find? fun d=>decide (d.name=n)).map fun d=>⟨d.cost,d.steps⟩
theorem xH{l:List Qq}(h:∀j,j<l.length->(l.getD j Qq.zero).name≠n):Q_ l n=none:=by
 unfold Q_;rw[Option.map_eq_none_iff,List.find?_eq_none];intro r c;obtain⟨j,a,e⟩:=Kb c;have:=h j a;simp only[List.getD,JV a,e,Lx] at this;simpa using this
theorem zf :∀{l:List Qq} {k:Nat},k<l.length->(l.getD k Qq.zero).name=n->(∀j,j<k->(l.getD j Qq.zero).name≠n)->Q_ l n=some ⟨(l.getD k Qq.zero).cost,(l.getD k Qq.zero).steps⟩
 | [],_,hk,_,_=>aT hk
 | r :: l,0,_,h,_=>by
  have a:r.name=n:=h;simp[Q_,List.find?,a,List.getD]
 | r :: l,k+1,hk,h,hj=>by
  have b:r.name≠n:=hj 0 (by omega);have e:Q_ (r :: l) n=Q_ l n:=by simp[Q_,List.find?,b]
  rw[e,zf (k:=k) (by simpa using hk) h (fun j d=>hj (j+1) (by omega))]
  rfl
def IW(l:List Qq)(n:LK)(r:Int):Prop:=(∃k:Nat,k<l.length/\r= (k:Int)/\Q_ l n=some ⟨(l.getD k Qq.zero).cost,(l.getD k Qq.zero).steps⟩/\(l.getD k Qq.zero).name=n/\∀j,j<k->(l.getD j Qq.zero).name≠n)\/(r= -1/\Q_ l n=none)
theorem gP{A:fP}:∀{l:List Qq},Q_ l n=some A->∃k,k<l.length/\(l.getD k Qq.zero).name=n/\(∀j,j<k->(l.getD j Qq.zero).name≠n)/\A= ⟨(l.getD k Qq.zero).cost,(l.getD k Qq.zero).steps⟩
 | [],h=>by simp[Q_] at h
 | d :: l,h=>by
  by_cases e:d.name=n
  ·refine⟨0,by simp,e,fun j a=>aT a, ?_⟩;simp[Q_,e] at h;exact h.symm
  ·have b:Q_ (d :: l) n=Q_ l n:=by simp[Q_,List.find?,e]
   rw[b] at h;obtain⟨k,c,f,i,m⟩:=gP h;refine⟨k+1,by simpa using c,f,fun j a=>?_,m⟩;cases j with
   | zero=>exact e
   | succ j=>exact i j (by omega)
theorem mi{l:List Qq}{k a:Nat}(h:(l.getD k Qq.zero).name=n)(b:∀j,j<k->(l.getD j Qq.zero).name≠n)(g:(l.getD a Qq.zero).name=n)(c:∀j,j<a->(l.getD j Qq.zero).name≠n):k=a:=by
 rcases Ls k a with e|e|e
 ·exact Lv h (c k e)
 ·exact e
 ·exact Lv g (b a e)
def Dm(Kq:List Qq)(l:List Qz)(n:LK)(e:Ending):Prop:=
 ∃(f:Bool) (t:LK) (ok:Bool),e= .returned (.tuple #[.agg #[.bool f,.string t],.bool ok])/\bP (Q_ Kq) (Qj l) n=if ok=true then some ⟨f,t⟩ else none
structure jk (w:LP) (kb:Nat) (a:LM) (n cap:Nat) (d:LM) (m dc:Nat):Prop where
 row:aC w kb 140 2
 web:w.cell? ⟨kb,0,none⟩=some (.slice a n cap)
 runs:w.cell? ⟨kb,1,none⟩=some (.slice d m dc)
theorem jk.kept{w':LP}{c n e m f:Nat}{a d:LM}(h:jk w c a n e d m f)(k:K_ w w'):jk w' c a n e d m f:=
 ⟨h.row.kept k,(k.cell h.row.lt).trans h.web,(k.cell h.row.lt).trans h.runs⟩
theorem gK(w:LP)(a:LM)(t:Nat)(l:List Qq)(c:LK)(B:l.length<=1048576)(v:bN w a l):
  Calls prog 44 #[.agg #[.slice a l.length t],.string c] w fun e w'=>(∃r,e= .returned (.int .i64 r)/\IW l c r)/\K_ w w':=by
 have f:K_ w (w.alloc (.cells #[.slice a l.length t] 25)):=ag _ _;go_enter func44,ntmps44
 go_wp2
 go_loop [5] (fun i=>∃k:Nat,k<=l.length/\i= .int .i64 k/\Hid (∀j,j<k->(l.getD j Qq.zero).name≠c)) (fun i=>l.length-(intOf i).toNat)
 case atStart=>exact⟨0,JR _,rfl,Kz fun j h=>aT h⟩
 case round=>
  obtain⟨k,C,rfl,d⟩:=hrel;by_cases m:k<l.length
  ·obtain⟨b,o,D,rfl,E,n,F,G,rfl,x⟩:=(v.kept f) k m;obtain⟨y,p⟩:=aj (l.getD k Qq.zero);rw[<-p] at n;have A:=n 0 _ rfl;rw[La] at A;have q:=Kz p;clear n p x;cases s:(y.name.toList == c.toList)
   ·go_wp2
    go_round
    case rel=>
     refine⟨k+1,by omega,by go_num,Kz fun j h=>?_⟩;by_cases e:j=k
     ·rw[e,<-q.o];exact jV s
     ·exact d.o j (by omega)
    case measure=>simp[intOf];omega
   ·go_wp2
    go_ret
    exact⟨⟨k,rfl,.inl ⟨k,m,rfl,zf m (by rw[<-q.o];exact eF s) d.o,(by rw[<-q.o];exact eF s),d.o⟩⟩,f⟩
  ·go_wp2
   go_ret
   exact⟨⟨-1,rfl,.inr ⟨rfl,xH fun j h=>d.o j (by omega)⟩⟩,f⟩
theorem Fg(w:LP)(v:Nat)(a:LM)(n y:Nat)(d:LM)(A:Nat)(l:List Qz)(c:LK)(E:l.length<=1048576)(x:jk w v a n y d l.length A)(B:bD w d l):
  Calls prog 123 #[.pointer (some ⟨v,0,none⟩),.string c] w fun e w'=>(∃r,e= .returned (.int .i64 r)/\CW l c r)/\w'=w:=by
 have F:=x.runs;have G:=x.row.lt;go_enter func123,ntmps123
 go_wp2
 go_loop [5] (fun i=>∃k:Nat,k<=l.length/\i= .int .i64 k/\Hid (∀j,j<k->(l.getD j Qz.zero).name≠c)) (fun i=>l.length-(intOf i).toNat)
 case atStart=>exact⟨0,JR _,rfl,Kz fun j f=>aT f⟩
 case round=>
  obtain⟨k,H,rfl,h⟩:=hrel;by_cases m:k<l.length
  ·obtain⟨b,o,I,J,rfl,K,p,_,_⟩:=B k m;obtain⟨C,q⟩:=aj (l.getD k Qz.zero);rw[<-q] at p;have D:=p 0 _ rfl;rw[La] at D;have s:=Kz q;clear p q;cases t:(C.name.toList == c.toList)
   ·go_wp2
    go_round
    case rel=>
     refine⟨k+1,by omega,by go_num,Kz fun j f=>?_⟩;by_cases e:j=k
     ·rw[e,<-s.o];exact jV t
     ·exact h.o j (by omega)
    case measure=>simp[intOf];omega
   ·go_wp2
    go_ret
    exact⟨⟨k,rfl,.inl ⟨k,m,rfl,BZ m (by rw[<-s.o];exact eF t) h.o,by rw[<-s.o];exact eF t⟩⟩,rfl⟩
  ·go_wp2
   go_ret
   exact⟨⟨-1,rfl,.inr ⟨rfl,zR fun j f=>h.o j (by omega)⟩⟩,rfl⟩
theorem fZ(w:LP)(t:LM)(v x:Nat)(d:LM)(y:Nat)(l:List Qz)(a:LK)(D:l.length<=1048576)(A:bD w d l):
  Calls prog 43 #[.agg #[.slice t v x,.slice d l.length y],.string a] w fun e w'=>(∃r,e= .returned (.int .i64 r)/\CW l a r)/\K_ w w':=by
 have c:K_ w (w.alloc (.cells #[.slice t v x,.slice d l.length y] 29)):=ag _ _;go_enter func43,ntmps43
 go_wp2
 go_loop [5] (fun i=>∃k:Nat,k<=l.length/\i= .int .i64 k/\Hid (∀j,j<k->(l.getD j Qz.zero).name≠a)) (fun i=>l.length-(intOf i).toNat)
 case atStart=>exact⟨0,JR _,rfl,Kz fun j f=>aT f⟩
 case round=>
  obtain⟨k,E,rfl,h⟩:=hrel;by_cases m:k<l.length
  ·obtain⟨b,o,F,G,rfl,H,n,_,_⟩:=(A.kept c) k m;obtain⟨B,p⟩:=aj (l.getD k Qz.zero);rw[<-p] at n;have C:=n 0 _ rfl;rw[La] at C;have q:=Kz p;clear n p;cases s:(B.name.toList == a.toList)
   ·go_wp2
    go_round
    case rel=>
     refine⟨k+1,by omega,by go_num,Kz fun j f=>?_⟩;by_cases e:j=k
     ·rw[e,<-q.o];exact jV s
     ·exact h.o j (by omega)
    case measure=>simp[intOf];omega
   ·go_wp2
    go_ret
    exact⟨⟨k,rfl,.inl ⟨k,m,rfl,BZ m (by rw[<-q.o];exact eF s) h.o,by rw[<-q.o];exact eF s⟩⟩,c⟩
  ·go_wp2
   go_ret
   exact⟨⟨-1,rfl,.inr ⟨rfl,zR fun j f=>h.o j (by omega)⟩⟩,c⟩
theorem Tryz.kH :(prog.info? 173).map (·.size)=some 2:=by kernel_rfl
theorem bU{P:Program}{e:Func}{R:Ending->LP->Prop}{a:Act}{p q:Tmp}{c:TypeId}{b:Nat}(cs:List LQ)(d:TypeDesc)(v:LQ)(h:e.results= #[.cell p c,.tmp q])
 (i:a.tmps.getD p undef= .pointer (some ⟨b,0,none⟩)) (j:w.rangeAt b 0 cs) (k:P.underlying c=some d) (l:d.isRow=true) (m:(P.info? c).map (·.size)=some cs.length)
 (n:a.tmps.getD q undef=v) (r:a.defers=[]) (s:R (.returned (.tuple #[.agg cs.toArray,v])) w):bodyPost P e R .ret a w:=by
 refine bodyPost_ret ?_ r s;have t:a.tmps[p]?.getD undef= .pointer (some ⟨b,0,none⟩):=by simpa using i
 have x:a.tmps[q]?.getD undef=v:=by simpa using n
 simp only[results,h];simp[t,x,asAddr,run_loadVar_mid w b 0 c cs d j k l m]
theorem K_.ll{w1:LP}(k:K_ w w1){i:Nat}(v:LQ):K_ w (w1.setCell ⟨w.heap.size,i,none⟩ v):=Below.setCell k (p:=⟨w.heap.size,i,none⟩) (JP _) v
theorem Zk{b c o p:Nat}(h:b≠c){v:LQ}:(w.setCell ⟨c,p,none⟩ v).cell? ⟨b,o,none⟩=w.cell? ⟨b,o,none⟩:=Kn _ _ _ _ (fun e=>h (congrArg Addr.block e).symm)
def FH(Kq:List Qq)(l:List Qz)(n:LK)(e:Ending):Prop:=
 ∃(f:Bool) (t:LK) (ok:Bool),e= .returned (.tuple #[.agg #[.bool f,.string t],.bool ok])/\bP (Q_ Kq) (Qj l) n= (if ok=true then some ⟨f,t⟩ else none)/\(ok=false->f=false/\t= ⟨#[]⟩)
theorem Br(w:LP)(t:Nat)(a:LM)(G:Nat)(q:List Qq)(d:LM)(H:Nat)(l:List Qz)(n:LK)(a0:q.length<=1048576)(a1:l.length<=1048576)(hn:n.size<=1000)(b:jk w t a q.length G d l.length H)(hN:bN w a q)(N:bD w d l):
  Calls prog 121 #[.pointer (some ⟨t,0,none⟩),.string n] w fun e w'=>FH q l n e/\K_ w w':=by
 have c:K_ w (w.alloc (.cells #[.bool false,.string ⟨#[]⟩] 173)):=ag _ _;have b0:=b.row.lt;have q0:=(b.kept c).web;have I:=(b.kept c).row.lt;go_enter func121,ntmps121
 go_wp2_with fail
 refine (gK _ a G q n a0 (hN.kept c)).mono ?_;rintro e w1 ⟨⟨b1,rfl,hr⟩,h⟩;have j:Hid (aC w1 w.heap.size 173 2):=(aC.made w #[.bool false,.string ⟨#[]⟩] 173).kept h;obtain⟨⟨_,O⟩,P⟩:=j.o.row.at (i:=0) (by omega);obtain⟨⟨_,Q⟩,R⟩:=j.o.row.at (i:=1) (by omega);have S:=j.o.lt;clear q0 I;rcases hr with⟨a2,hk,rfl,v,_⟩|⟨rfl,v⟩
 ·have b2:¬(a2:Int)<0:=by omega
  have J:=(b.kept c).kept h;have B:=(N.kept c).kept h;have x:=Kz v;clear v;go_wp2_with fail
  refine (Fg w1 t a q.length G d H l n a1 J B).mono ?_;rintro e w2 ⟨⟨r2,rfl,a3⟩,T⟩;rw[T];clear T w2;rcases a3 with⟨k,U,rfl,r,_⟩|⟨rfl,r⟩
  ·have b3:¬(k:Int)<0:=by omega
   have b4:(k:Int)<(l.length:Int):=by omega
   obtain⟨y,K⟩:=aj (l.getD k Qz.zero);rw[<-K] at r;obtain⟨C,o,_,_,rfl,b5,_⟩:=N k U;obtain⟨b6,o1,xa,xc,V,hb,s,_,_⟩:=B k U;simp only[KT,LG,and_true] at V;obtain⟨rfl,rfl⟩:=V;rw[<-K] at s;have W:=s 1 _ rfl;have c2:=s 2 _ rfl;have c3:=s 3 _ rfl;have I:=J.runs;have qz:=J.row.lt;have⟨D,HC⟩:=aH r s;clear K s r B;cases E:y.over
   ·rw[E] at W;go_wp2_with fail
    have p:=JU w1 w.heap.size 0 [.bool false,.string ⟨#[]⟩] (j.o.row.there (o:=0) (m:=2) (JP _));refine bU [.bool false,.string ⟨#[]⟩] _ (.bool false) results121 rfl p underlying173 rfl Tryz.kH rfl rfl ?_;exact⟨⟨false,⟨#[]⟩,false,rfl,by unfold bP;rw[x.o,D.o];simp[E],fun _=>⟨rfl,rfl⟩⟩,((c.trans h).ll _).ll _⟩
   ·rw[E] at W;go_upto_region 6 with fail
    refine Qx.region (by kernel_rfl) (fun w'=>w'.cell? ⟨t,1,none⟩=some (.slice (some ⟨C,o,none⟩) l.length H)/\w'.cell? ⟨C,o+k*7+2,none⟩=some (.bool y.fail)/\w'.cell? ⟨C,o+k*7+3,none⟩=some (.string y.text)) 18 ⟨I,c2,c3⟩ (fun f=>?_);have a4:w1.drew.cell? ⟨w.heap.size,0,none⟩=some _:=O;have a5:w1.drew.cell? ⟨w.heap.size,1,none⟩=some _:=Q;have a6:w1.drew.frozen? ⟨w.heap.size,0,none⟩=false:=P;have a7:w1.drew.frozen? ⟨w.heap.size,1,none⟩=false:=R;have a8:w.heap.size<w1.drew.heap.size:=S;have L:K_ w1 w1.drew:=aL _;have X:=Kz (j.o.kept L);have Y:=h.trans L;generalize a9:w1.drew=wd at f a4 a5 a6 a7 a8 X Y⊢;clear a9 L O Q P R S;refine au 0 f ?_;refine au 4 f ?_;refine au 8 f ?_;refine au 12 f ?_;refine af 16 f ?_;have Z:t≠w.heap.size:=by omega
    have F:C≠w.heap.size:=by omega
    refine ah 17 (fun M b=>?_);go_simp
    refine ae b (fun _=>⟨by rw[Zk Z,Zk Z];exact f.1,by rw[Zk F,Zk F];exact f.2.1,by rw[Zk F,Zk F];exact f.2.2⟩) ?_;clear b M;refine ah 18 (fun M b=>?_);go_simp
    refine ae b (fun A=>Lv rfl A) ?_;clear b M;refine aB ?_;go_wp2_with fail
    have p:=JU wd w.heap.size 0 [.bool y.fail,.string y.text] (X.o.row.there (o:=0) (m:=2) (JP _));refine bU [.bool y.fail,.string y.text] _ (.bool true) results121 rfl p underlying173 rfl Tryz.kH rfl rfl ?_;exact⟨⟨y.fail,y.text,true,rfl,by unfold bP;rw[x.o,D.o];simp[E],fun A=>by cases A⟩,((c.trans Y).ll _).ll _⟩
  ·have D:=Kz r;clear r B;go_wp2_with fail
   have p:=JU w1 w.heap.size 0 [.bool false,.string ⟨#[]⟩] (j.o.row.there (o:=0) (m:=2) (JP _));refine bU [.bool false,.string ⟨#[]⟩] _ (.bool false) results121 rfl p underlying173 rfl Tryz.kH rfl rfl ?_;exact⟨⟨false,⟨#[]⟩,false,rfl,by unfold bP;rw[x.o,D.o];rfl,fun _=>⟨rfl,rfl⟩⟩,((c.trans h).ll _).ll _⟩
 ·have x:=Kz v;clear v;have f3:¬9223372036854775807<3+n.size:=by omega
  go_wp2_with fail
  have p:=JU w1 w.heap.size 0 [.bool true,.string ((⟨#[110,111,32]⟩:LK)++n)] (j.o.row.there (o:=0) (m:=2) (JP _));refine bU [.bool true,.string ((⟨#[110,111,32]⟩:LK)++n)] _ (.bool true) results121 rfl p underlying173 rfl Tryz.kH rfl rfl ?_;exact⟨⟨true,uY n,true,rfl,by unfold bP;rw[x.o];rfl,fun A=>by cases A⟩,((c.trans h).ll _).ll _⟩
theorem BB(w:LP)(c:Nat)(a:LM)(f:Nat)(b:List Qq)(d:LM)(h:Nat)(l:List Qz)(n:LK)(i:b.length<=1048576)(j:l.length<=1048576)(k:n.size<=1000)(m:jk w c a b.length f d l.length h)(p:bN w a b)(q:bD w d l):
  Calls prog 121 #[.pointer (some ⟨c,0,none⟩),.string n] w fun e w'=>Dm b l n e/\K_ w w':=by
 refine (Br w c a f b d h l n i j k m p q).mono ?_;rintro e w' ⟨⟨r,t,s,v,x,_⟩,y⟩;exact⟨⟨r,t,s,v,x⟩,y⟩
theorem Tryz.BA :(prog.info? 173).map (fun i=>(i.zero,i.size,i.bytes))=some (some (.agg #[.bool false,.string ByteArray.empty]),2,24):=by kernel_rfl
def di(l:List Xq):List LQ:=(l.map Xq.cells).flatten
theorem rT(l:List Xq):(di l).length=l.length*2:=by
 induction l with
 | nil=>rfl
 | cons c r ih=>simp only[di,List.map_cons,List.flatten_cons,KS,KY] at ih⊢;rw[ih];simp[Xq.cells];omega
theorem nV(l:List Xq)(c:Xq):di (l++ [c])=di l++c.cells:=by simp[di]
theorem pE :∀(l:List Xq) (i j:Nat),i<l.length->j<2->(di l)[i*2+j]? = ((l.getD i Xq.zero).cells)[j]?
 | [],_,_,h,_=>aT h
 | c :: r,0,j,_,hj=>by
  have e:di (c :: r)=c.cells++di r:=rfl;rw[e,Nat.zero_mul,KH,Lh (by simpa[Xq.cells] using hj)]
  rfl
 | c :: r,i+1,j,h,hj=>by
  have e:di (c :: r)=c.cells++di r:=rfl;have b:c.cells.length=2:=rfl;rw[e,Li (by rw[b];omega),b,show (i+1)*2+j-2=i*2+j by omega,pE r i j (by simpa using h) hj]
  rfl
def IX(w:LP)(a:LM)(l:List Xq):Prop:=
 l=[]\/∃b cur fr,a=some ⟨b,0,none⟩/\w.heap[b]? =some (Obj.cells cur 173 fr)/\∀i,i<l.length->w.rangeAt b (i*2) (l.getD i Xq.zero).cells
theorem IX.answers{a:LM}{l:List Xq}(h:IX w a l):ed w a l:=by
 rcases h with rfl|⟨c,j,k,d,e,f⟩
 ·intro i b;simp at b
 ·exact fun i b=>⟨c,0,d,aO e,by rw[KH];exact f i b⟩
theorem jf{base:Nat}{v:LQ}{n:Nat}{l:List Xq}(h:w.ownsRow base 173 2 v n (di l)):∃a b,v= .slice a l.length b/\l.length<=b/\IX w a l:=by
 have e:n=l.length:=by have:=h.1;rw[rT] at this;omega
 subst e;rcases h.2 with⟨rfl,c⟩|⟨g,b,f,rfl,r,k,m,_,_,_⟩
 ·exact⟨none,0,by rw[c],by omega,.inl (LB c)⟩
 ·refine⟨_,b,rfl,m,.inr ⟨g,f,_,rfl,k,fun i p j u d=>?_⟩⟩;have q:j<2:=by have:=(JW.1 d).1;simpa[Xq.cells] using this
  have:=h.cells (g:=g) rfl (i*2+j) u (by rw[pE l i j p q];exact d);rw[KZ,KH] at this;exact this
def aP(a b:LK):Prop:=Op.bytesLess a.toList b.toList=true
theorem aV(a:LK):¬aP a a:=fun h=>by unfold aP at h;rw[dG] at h;cases h
theorem fF{a b c:LK}(h:aP a b)(g:aP b c):aP a c:=dX _ _ _ h g
theorem dH{a b:LK}(h:aP a b):¬aP b a:=fun g=>aV a (fF h g)
theorem dA{a b:LK}(h:aP a b):a≠b:=fun e=>by rw[e] at h;exact aV b h
theorem dI(a b:LK):aP a b\/a=b\/aP b a:=by
 unfold aP;cases h:Op.bytesLess a.toList b.toList with
 | true=>exact .inl rfl
 | false=>
  by_cases e:a=b
  ·exact .inr (.inl e)
  ·exact .inr (.inr (pR _ _ h fun c=>e (toList_inj.1 c)))
def cO(l:List Qz):Prop:=l.Pairwise fun x y=>aP x.name y.name
variable {l : List Qz} {r : Qz}
theorem bF{n:LK}(h:Qj l n=some r):r∈l/\r.name=n:=by
 unfold Qj at h;exact⟨List.mem_of_find?_eq_some h,by simpa using List.find?_some h⟩
theorem bI(h:cO l)(a:r∈l):Qj l r.name=some r:=by
 induction l with
 | nil=>cases a
 | cons x l ih=>
  rw[cO,LF] at h;rcases Lb.1 a with rfl|a
  ·simp[Qj]
  ·have c:x.name≠r.name:=dA (h.1 r a);have e:Qj (x :: l) r.name=Qj l r.name:=by simp[Qj,List.find?,c]
   rw[e];exact ih h.2 a
theorem Du :∀{l l':List Qz},cO l->cO l'->(∀r,r∈l↔r∈l')->l=l'
 | [],[],_,_,_=>rfl
 | [],y :: ys,_,_,h=>by have:=(h y).2 (by simp);cases this
 | x :: xs,[],_,_,h=>by have:=(h x).1 (by simp);cases this
 | x :: xs,y :: ys,hl,hl',h=>by
  rw[cO,LF] at hl hl';have c:x=y:=by
   rcases Lb.1 ((h x).1 (by simp)) with e|d
   ·exact e
   ·rcases Lb.1 ((h y).2 (by simp)) with e|f
    ·exact e.symm
    ·exact Lv (hl.1 y f) (dH (hl'.1 x d))
  subst c;rw[Du hl.2 hl'.2 fun r=>?_];constructor
  ·intro a;rcases Lb.1 ((h r).1 (Kl _ a)) with rfl|b
   ·exact Lv (hl.1 r a) (aV _)
   ·exact b
  ·intro a;rcases Lb.1 ((h r).2 (Kl _ a)) with rfl|b
   ·exact Lv (hl'.1 r a) (aV _)
   ·exact b
theorem Gw{a:List Qz}(h:cO l)(d:cO a)(e:Qj l=Qj a):l=a:=by
 refine Du h d fun r=>⟨fun b=>?_,fun b=>?_⟩
 ·have:=bI h b;rw[e] at this;exact (bF this).1
 ·have:=bI d b;rw[<-e] at this;exact (bF this).1
theorem tY(d:∀x∈l,∀y∈l,x.name=y.name->x=y){n:LK}:Qj l n=some r↔r∈l/\r.name=n:=by
 refine⟨bF,fun ⟨b,c⟩=>?_⟩;cases h:Qj l n with
 | none=>
  unfold Qj at h;rw[List.find?_eq_none] at h;exact Lv (by simpa using c) (h r b)
 | some x=>
  obtain⟨e,f⟩:=bF h;rw[d x e r b (f.trans c.symm)]
theorem qi(h:cO l):∀x∈l,∀y∈l,x.name=y.name->x=y:=fun x c y d e=>by
 have b:=bI h c;have f:=bI h d;rw[e,f] at b;exact (Lf b).symm
def dF(l:List Qz)(r:Qz):List Qz:=(l.filter fun x=>Op.bytesLess x.name.toList r.name.toList)++r :: l.filter fun x=>Op.bytesLess r.name.toList x.name.toList
theorem nR(h:cO l):cO (dF l r):=by
 unfold dF;rw[cO,KC];refine⟨h.filter _, ?_,fun x e y a=>?_⟩
 ·rw[LF];exact⟨fun y a=>(List.mem_filter.1 a).2,h.filter _⟩
 ·have c:aP x.name r.name:=(List.mem_filter.1 e).2;rcases Lb.1 a with rfl|a
  ·exact c
  ·exact fF c (List.mem_filter.1 a).2
theorem qA{x:Qz}:x∈dF l r↔x=r\/(x∈l/\x.name≠r.name):=by
 unfold dF;rw[JZ,Lb,List.mem_filter,List.mem_filter];constructor
 ·rintro (⟨a,b⟩|h|⟨a,b⟩)
  ·exact .inr ⟨a,dA b⟩
  ·exact .inl h
  ·exact .inr ⟨a,Ne.symm (dA b)⟩
 ·rintro (h|⟨a,b⟩)
  ·exact .inr (.inl h)
  ·rcases dI x.name r.name with c|c|c
   ·exact .inl ⟨a,c⟩
   ·exact Lv c b
   ·exact .inr (.inr ⟨a,c⟩)
theorem uJ(h:cO l)(n:LK):Qj (dF l r) n=if n=r.name then some r else Qj l n:=by
 have c:=qi (nR (r:=r) h);by_cases e:n=r.name
 ·rw[Lt e];exact (tY c).2 ⟨(qA).2 (.inl rfl),e.symm⟩
 ·rw[Lu e];cases d:Qj l n with
  | some x=>
   obtain⟨b,a⟩:=bF d;exact (tY c).2 ⟨(qA).2 (.inr ⟨b,fun f=>e (a.symm.trans f)⟩),a⟩
  | none=>
   cases i:Qj (dF l r) n with
   | none=>rfl
   | some x=>
    obtain⟨b,a⟩:=bF i;rcases (qA).1 b with rfl|⟨j,_⟩
    ·exact Lv a.symm e
    ·have:=(tY (qi h)).2 ⟨j,a⟩;rw[d] at this;cases this
theorem lM :∀(l t:List Qz),cO t->(∀x∈l,∀y∈l,x.name=y.name->x=y)->cO (l.foldl dF t)/\∀n,Qj (l.foldl dF t) n=match Qj l n with | some r=>some r | none=>Qj t n
 | [],t,h,_=>⟨h,fun n=>rfl⟩
 | x :: l,t,h,hd=>by
  obtain⟨c,d⟩:=lM l (dF t x) (nR h) (fun a f i j=>hd a (Kl _ f) i (Kl _ j));refine⟨c,fun n=>?_⟩;show Qj (l.foldl dF (dF t x)) n=_;rw[d n];by_cases e:x.name=n
  ·have b:Qj (x :: l) n=some x:=by simp[Qj,e]
   rw[b];cases k:Qj l n with
   | some r=>
    obtain⟨m,p⟩:=bF k;simp only;rw[hd r (Kl _ m) x (by simp) (p.trans e.symm)]
   | none=>
    simp only;rw[uJ h,Lt e.symm]
  ·have b:Qj (x :: l) n=Qj l n:=by simp[Qj,List.find?,e]
   rw[b];cases Qj l n with
   | some r=>rfl
   | none=>
    simp only;rw[uJ h,Lu (Ne.symm e)]
def pQ(r:Qz)(p:List Qz×Bool)(x:Qz):List Qz×Bool:=if p.2=false/\Op.bytesLess x.name.toList r.name.toList=false then (p.1++ [r],true) else p
def wH(r:Qz)(p:List Qz×Bool)(x:Qz):List Qz×Bool:=if (x.name.toList == r.name.toList)=true then p else (p.1++ [x],p.2)
def qX(r:Qz)(p:List Qz×Bool)(x:Qz):List Qz×Bool:=wH r (pQ r p x) x
def rJ(l:List Qz)(r:Qz)(k:Nat):List Qz×Bool:=(l.take k).foldl (qX r) ([],false)
theorem Ec(l:List Qz)(r:Qz):rJ l r 0= ([],false):=rfl
theorem xQ{k:Nat}(h:k<l.length):rJ l r (k+1)=qX r (rJ l r k) (l.getD k Qz.zero):=by
 unfold rJ;rw[JX h,List.foldl_append];simp[List.getD,h]
theorem FK(r:Qz)(p:List Qz×Bool)(x:Qz):(qX r p x).1.length+ (if (qX r p x).2=true then 0 else 1)<=p.1.length+ (if p.2=true then 0 else 1)+1:=by
 unfold qX wH pQ;obtain⟨o,d⟩:=p;cases d <;> cases Op.bytesLess x.name.toList r.name.toList <;> cases (x.name.toList == r.name.toList) <;> simp <;> omega
theorem Ag{l:List Qz}{r:Qz}:∀{k:Nat},k<=l.length->(rJ l r k).1.length+ (if (rJ l r k).2=true then 0 else 1)<=k+1
 | 0,_=>by rw[Ec];simp
 | k+1,h=>by
  have a:=Ag (l:=l) (r:=r) (k:=k) (by omega);have b:=FK r (rJ l r k) (l.getD k Qz.zero);rw[xQ (by omega)];omega
def yF(r:Qz)(p:List Qz×Bool):List Qz:=if p.2=true then p.1 else p.1++ [r]
theorem A_(r:Qz):∀(l acc:List Qz),l.foldl (qX r) (acc,true)= (acc++l.filter (fun x=>!(x.name.toList == r.name.toList)),true)
 | [],acc=>by simp
 | x :: l,acc=>by
  rw[List.foldl_cons];have e:qX r (acc,true) x= (acc++ (if (x.name.toList == r.name.toList)=true then [] else [x]),true):=by
   unfold qX wH pQ;cases (x.name.toList == r.name.toList) <;> simp
  rw[e,A_ r l];cases h:(x.name.toList == r.name.toList) <;> simp[h]
theorem Ad(r:Qz):∀(l acc:List Qz),cO l->yF r (l.foldl (qX r) (acc,false))=acc++dF l r
 | [],acc,_=>by simp[yF,dF]
 | x :: l,acc,i=>by
  have j:=i;rw[cO,LF] at j;rw[List.foldl_cons];cases e:Op.bytesLess x.name.toList r.name.toList with
  | true=>
   have n:(x.name.toList == r.name.toList)=false:=by
    rw[beq_eq_false_iff_ne];intro f;exact dA (a:=x.name) (b:=r.name) e (toList_inj.1 f)
   have p:Op.bytesLess r.name.toList x.name.toList=false:=by
    cases k:Op.bytesLess r.name.toList x.name.toList with
    | false=>rfl
    | true=>exact Lv k (dH (a:=x.name) (b:=r.name) e)
   have f:qX r (acc,false) x= (acc++ [x],false):=by simp[qX,wH,pQ,e,n]
   rw[f,Ad r l _ j.2];simp[dF,e,p]
  | false=>
   have m:∀y∈x :: l,Op.bytesLess y.name.toList r.name.toList=false:=by
    intro y h;rcases Lb.1 h with rfl|h
    ·exact e
    ·cases k:Op.bytesLess y.name.toList r.name.toList with
     | false=>rfl
     | true=>
      have:=fF (j.1 y h) (show aP y.name r.name from k);unfold aP at this;rw[e] at this;cases this
   have q:(x :: l).filter (fun y=>Op.bytesLess y.name.toList r.name.toList)=[]:=by
    rw[List.filter_eq_nil_iff];intro y h;rw[m y h];simp
   have s:(x :: l).filter (fun y=>Op.bytesLess r.name.toList y.name.toList)= (x :: l).filter (fun y=>!(y.name.toList == r.name.toList)):=by
    refine List.filter_congr fun y h=>?_
    rcases dI r.name y.name with d|d|d
    ·have t:(y.name.toList == r.name.toList)=false:=by
      rw[beq_eq_false_iff_ne];intro f;exact dA d (toList_inj.1 f).symm
     unfold aP at d;rw[d,t]
     rfl
    ·rw[d,dG];simp
    ·unfold aP at d;rw[m y h] at d;cases d
   have f:qX r (acc,false) x= (acc++ [r]++ (if (x.name.toList == r.name.toList)=true then [] else [x]),true):=by
    unfold qX wH pQ;cases (x.name.toList == r.name.toList) <;> simp[e]
   rw[f,A_];unfold yF dF;rw[q,s];cases i:(x.name.toList == r.name.toList) <;> simp[i]
theorem G_(h:cO l):yF r (rJ l r l.length)=dF l r:=by
 unfold rJ;rw[KI,Ad r l [] h,List.nil_append]
theorem yT(w:LP)(asks:Nat)(on:Int)(cases:Nat)(els fall:Int)(bad:Bool)(give:LK)(j k:LM)(l m:Nat)(n:Int)(p:asks<=maxLen)(h2:cases<=maxLen)(q:give.size<=maxLen):
  Calls prog 122 #[.agg #[.slice j asks l,.int .i64 on,.slice k cases m,.int .i64 els,.int .i64 fall,.bool true,.bool bad,.string give],.int .i64 n] w
   fun e w'=>Says e (asks=0/\on=0/\cases=0/\els=0/\fall=0/\give.size<=30)/\K_ w w':=by
 unfold maxLen at p h2 q;have a:K_ w (w.alloc (.cells #[.slice j asks l,.int .i64 on,.slice k cases m,.int .i64 els,.int .i64 fall,.bool true,.bool bad,.string give] 83)):=ag _ _;cases b:((asks:Int) == 0)
 ·go_enter func122,ntmps122
  go_wp2
  go_ret
  exact⟨Says.no fun h=>by simp at b;omega,a⟩
 ·obtain rfl:asks=0:=by simp at b;omega
  clear b;cases c:(on == 0)
  ·go_enter func122,ntmps122
   go_wp2
   go_ret
   exact⟨Says.no fun h=>by simp at c;omega,a⟩
  ·obtain rfl:on=0:=by simpa using c
   clear c;cases d:((cases:Int) == 0)
   ·go_enter func122,ntmps122
    go_wp2
    go_ret
    exact⟨Says.no fun h=>by simp at d;omega,a⟩
   ·obtain rfl:cases=0:=by simp at d;omega
    clear d;cases f:(els == 0)
    ·go_enter func122,ntmps122
     go_wp2
     go_ret
     exact⟨Says.no fun h=>by simp at f;omega,a⟩
    ·obtain rfl:els=0:=by simpa using f
     clear f;cases i:(fall == 0)
     ·go_enter func122,ntmps122
      go_wp2
      go_ret
      exact⟨Says.no fun h=>by simp at i;omega,a⟩
     ·obtain rfl:fall=0:=by simpa using i
      clear i;by_cases r:(give.size:Int)<=30
      ·go_enter func122,ntmps122
       go_wp2
       go_ret
       exact⟨Says.yes (by simp;omega),a⟩
      ·go_enter func122,ntmps122
       go_wp2
       go_ret
       exact⟨Says.no fun h=>by omega,a⟩
theorem vX(w:LP)(s:Xj)(f i:LM)(j l:Nat)(n:Int)(c:s.Fits)(x:0<=n/\n<=20)
  (m:Strs w f s.asks) (p:kv w i s.cases) (y:s.fin=false) (A:Hid (¬uf s n)):
  Calls prog 122 #[.agg #[.slice f s.asks.length j,.int .i64 s.on,.slice i s.cases.length l,.int .i64 s.els,.int .i64 s.fall,.bool s.fin,.bool s.bad,.string s.give],.int .i64 n] w
   fun e w'=>e= .returned (.bool false)/\K_ w w':=by
 rw[y];obtain⟨L,M⟩:=x;have B:=c.asks;have C:=c.cases;have D:=c.give;unfold maxLen at B C D;have q:=rf s.give;have E:=Kz q;clear q;cases F:s.bad
 ·have b:K_ w (w.alloc (.cells #[.slice f s.asks.length j,.int .i64 s.on,.slice i s.cases.length l,.int .i64 s.els,.int .i64 s.fall,.bool false,.bool false,.string s.give] 83)):=ag _ _;go_enter func122,ntmps122
  go_wp2_with fail
  ·have G:Hid (s.give.size=0):=E.o.1 (by assumption);refine (kP _ f j s.asks c.asks c.dM (m.kept b)).mono ?_;rintro e w1 ⟨k,d⟩;have a:=b.trans d;rcases k.cases with⟨rfl,r⟩|⟨rfl,N⟩
   ·have H:=Kz r;clear r k;obtain⟨O,P⟩:=d.rules;have I:=d.size;simp only[KR] at I;clear b d;have Q:=p.kept a;clear p m;by_cases R:(s.cases.length:Int)<=5
    ·by_cases S:0<=s.els
     ·cases t:decide (s.els<=n-1)
      ·have J:n-1<s.els:=by simpa using t
       go_wp2
       go_ret
       exact⟨rfl,a⟩
      ·have J:s.els<=n-1:=by simpa using t
       by_cases T: -1<=s.fall
       ·cases v:decide (s.fall<=n-1)
        ·have K:n-1<s.fall:=by simpa using v
         go_wp2
         go_ret
         exact⟨rfl,a⟩
        ·have K:s.fall<=n-1:=by simpa using v
         have h:¬(s.on=0\/(0<=s.on/\s.on<s.asks.length)):=fun h=>A.out ⟨F,G.o,by omega,H.o,by omega,⟨by omega,by omega⟩,⟨by omega,by omega⟩,h⟩
         have U:(s.on != 0)=true:=bne_iff_ne.2 (by omega);by_cases V:0<=s.on
         ·have W:s.asks.length-1<s.on:=by omega
          have X:decide (s.on<=(s.asks.length:Int)-1)=false:=by simp;omega
          clear h;go_wp2
          go_ret
          exact⟨rfl,a⟩
         ·clear h;go_wp2
          go_ret
          exact⟨rfl,a⟩
       ·go_wp2
        go_ret
        exact⟨rfl,a⟩
     ·go_wp2
      go_ret
      exact⟨rfl,a⟩
    ·go_wp2
     go_ret
     exact⟨rfl,a⟩
   ·clear k b d;go_wp2
    go_ret
    exact⟨rfl,a⟩
  ·go_ret
   exact⟨rfl,b⟩
  ·go_ret
   exact⟨rfl,b⟩
 ·go_enter func122,ntmps122
  go_wp2
  go_ret
  exact⟨rfl,ag _ _⟩
theorem vQ(w:LP)(give:LK)(a:LM)(J:Nat)(l:List LK)(K:give.size<=maxLen)(L:l.length<=maxLen)(B:∀s∈l,s.size<=maxLen)(M:Strs w a l):
  Calls prog 120 #[.string give,.slice a l.length J] w fun e w'=>e= .returned (.string (mZ give l))/\K_ w w':=by
 unfold maxLen at K L B;by_cases h1:(give.size:Int)<=30
 ·by_cases h2:(l.length:Int)<=100
  ·go_enter func120,ntmps120
   go_wp2
   go_loop [5,6] (fun x i=>∃(k:Nat) (b:LK),k<=l.length/\i= .int .i64 k/\x= .string b/\b.data.toList=give.data.toList++40 :: Lib.join ((texts l).take k) [44]/\(∀j,j<k->(l.getD j ByteArray.empty).size<=200)/\b.size<=31+k*201) (fun _ i=>l.length-(intOf i).toNat)
   case atStart=>exact⟨0,_,JR _,rfl,rfl,by rw[fq];simp[Lib.join_nil],fun j p=>aT p,by have e:(⟨#[40]⟩:LK).size=1:=rfl;rw[ByteArray.size_append,e];omega⟩
   case round=>
    obtain⟨k,b,hk,rfl,rfl,q,p,C⟩:=hrel;have⟨f,y⟩:=aH q p;clear q p;by_cases h:k<l.length
    ·obtain⟨g,o,rfl,a0,hc⟩:=M k h;have a1:=B (l.getD k ByteArray.empty) (by simp[List.getD,h]);generalize D:l.getD k ByteArray.empty=N at *;have r:=Kz D;clear D;by_cases h3:(N.size:Int)<=200
     ·by_cases h4:(0:Int)<k
      ·go_wp2
       go_round
       case rel=>
        have t:=nT (texts l) k (by rw[jv];exact h);rw[vV l k h,r.o,Lt (by omega)] at t;refine⟨k+1,_,by omega,by go_num,rfl, ?_,fun j p=>?_, ?_⟩
        ·rw[t];simp only[fq,f.o];simp
        ·by_cases e:j=k
         ·subst e;rw[r.o];omega
         ·exact y.o j (by omega)
        ·simp only[ByteArray.size_append];have:(⟨#[44]⟩:LK).size=1:=rfl;omega
       case measure=>simp[intOf];omega
      ·go_wp2
       go_round
       case rel=>
        have t:=nT (texts l) k (by rw[jv];exact h);rw[vV l k h,r.o,Lu (by omega)] at t;refine⟨k+1,_,by omega,by go_num,rfl, ?_,fun j p=>?_, ?_⟩
        ·rw[t];simp only[fq,f.o];simp
        ·by_cases e:j=k
         ·subst e;rw[r.o];omega
         ·exact y.o j (by omega)
        ·simp only[ByteArray.size_append];have:(⟨#[44]⟩:LK).size=1:=rfl;omega
       case measure=>simp[intOf];omega
     ·go_wp2
      go_ret
      exact⟨kR (jI (.inr (.inr ⟨k,h,by rw[r.o];omega⟩))).symm,K_.refl _⟩
    ·have O:k=l.length:=by omega
     have E:Hid ((b++ ⟨#[41]⟩).data.toList=jr give.data.toList (texts l)):=by
      show _=_;rw[fq,f.o,O,<-jv,KI];simp[jr]
     have F:Hid (oG give l):=⟨by omega,by omega,fun i hi=>y.o i (by omega)⟩;have P:(b++ ⟨#[41]⟩:LK).size=b.size+1:=by rw[ByteArray.size_append];rfl
     by_cases Q:(b.size:Int)+1<=200
     ·go_wp2
      go_ret
      exact⟨kR (vT F.o E.o (by omega)).symm,K_.refl _⟩
     ·go_wp2
      have a2:(b++ ⟨#[41]⟩:LK).size<=100000:=by omega
      have R:200<(b++ ⟨#[41]⟩:LK).size:=by omega
      clear P Q C f;generalize (b++ ⟨#[41]⟩:LK)=c at *;go_loop [7,8] (fun v i=>∃k:Nat,k<=c.size/\i= .int .i64 k/\v= .int .u64 ((c.data.toList.take k).foldl dL 14695981039346656037)) (fun _ i=>c.size-(intOf i).toNat)
      case atStart=>exact⟨0,JR _,rfl,rfl⟩
      case round=>
       obtain⟨m,hm,rfl,rfl⟩:=hrel;by_cases S:m<c.size
       ·have G:m<c.data.toList.length:=by simpa using S
        have T:Hid ((c.data.toList.take (m+1)).foldl dL 14695981039346656037=dL ((c.data.toList.take m).foldl dL 14695981039346656037) c[m]):=by
         have e:=qP c.data.toList m G;rw[List.getD_eq_getElem?_getD,JV G,Lx] at e;exact e
        generalize (c.data.toList.take m).foldl dL 14695981039346656037=v at *;go_wp2
        go_round
        case rel=>exact⟨m+1,by omega,by go_num,by rw[T.o];rw[yj];rfl⟩
        case measure=>simp[intOf];omega
       ·have U:m=c.data.toList.length:=by simp;omega
        subst U;rw[KI];have W:=qH c.data.toList;have A:Hid (mZ give l= ⟨(35 :: je 16 (sumOf c.data.toList).toNat).toArray⟩):=yf F.o E.o R;unfold sumOf at W A;generalize List.foldl dL 14695981039346656037 c.data.toList=V at *;obtain⟨v,rfl⟩:∃v:Nat,V=v:=⟨V.toNat,by omega⟩;rw[Int.toNat_natCast] at A;go_wp2
        go_loop [7,9,10] (fun x d i=>∃(k:Nat) (b:LK),k<=16/\i= .int .i64 k/\x= .int .u64 ((v / 16 ^ k:Nat):Int)/\d= .string b/\b.data.toList=je k v) (fun _ _ i=>16-(intOf i).toNat)
        case atStart=>exact⟨0,ByteArray.empty,JR _,rfl,by simp,rfl,rfl⟩
        case round=>
         obtain⟨n,b,hn,rfl,rfl,rfl,q⟩:=hrel;have f:=Kz q;clear q;have C:b.size<=16:=by have:=congrArg List.length f.o;rw[gY] at this;simp at this;omega
         by_cases a3:(n:Int)<16
         ·have X:(v / 16 ^ n) % 16<16:=Nat.mod_lt _ (by omega);have H:v / 16 ^ n / 16=v / 16 ^ (n+1):=by rw[Nat.div_div_eq_div_mul,Nat.pow_succ]
          have Y:=Kz H;clear H;have a4:v / 16 ^ n<18446744073709551616:=Nat.lt_of_le_of_lt (Nat.div_le_self _ _) (by omega);generalize I:v / 16 ^ n=u at *;have Z:=Kz I;clear I;go_wp2
          go_round
          case rel=>
           refine⟨n+1,_,by omega,by go_num,by rw[<-Y.o];simp,rfl, ?_⟩;rw[fq,Hd _ X,f.o,je,Z.o]
           rfl
          case measure=>simp[intOf];omega
         ·go_wp2
          go_ret
          obtain rfl:n=16:=by omega
          exact⟨kR (by rw[A.o];apply yK;rw[fq,f.o];rfl),K_.refl _⟩
  ·go_enter func120,ntmps120
   go_wp2
   go_ret
   exact⟨by rw[jI (by omega)];rfl,K_.refl _⟩
 ·go_enter func120,ntmps120
  go_wp2
  go_ret
  exact⟨by rw[jI (by omega)];rfl,K_.refl _⟩
section
variable (E : LK -> LK -> Prop)
inductive RW (g:LK):Nat->LK->Prop
 | one {a:LK} (h:E a g):RW g 1 a
 | step {n:Nat} {a b:LK} (h:E a b) (hb:aP g b) (r:RW g n b):RW g (n+1) a
def dQ(g:LK)(n:Nat)(a:LK):Prop:=RW E g n a/\∀m,m<n->¬RW E g m a
def gM(p:LK->Prop)(x:LK):Prop:=p x/\∀y,p y->¬aP y x
inductive kZ (g:LK):Nat->LK->List LK->Prop
 | stop (a:LK):kZ g 1 a [a]
 | step {n:Nat} {a x:LK} {l:List LK} (h:gM (fun y=>E a y/\aP g y/\dQ E g n y) x) (r:kZ g n x l):kZ g (n+1) a (a :: l)
inductive lS (g:LK):Nat->LK->List LK->Prop
 | stop (a:LK):lS g 1 a [a]
 | step {n:Nat} {a x:LK} {l:List LK} (h:gM (fun y=>E a y/\Far E g n y) x) (r:lS g n x l):lS g (n+1) a (a :: l)
def qg(l:List LK):Prop:=
 ((∀x n,1<=n->¬aR E n x x)/\l=[])\/∃m t,1<=m/\(∀x n,1<=n->aR E n x x->m<=n)/\gM (fun x=>aR E m x x) t/\lS E t m t l
end
variable {a g : LK} {n : Nat}
section
variable {E : LK -> LK -> Prop}
theorem gM.unique{p q:LK->Prop}(b:∀x,p x↔q x){x y:LK}(h:gM p x)(k:gM q y):x=y:=by
 rcases dI x y with e|e|e
 ·exact Lv e (k.2 x ((b x).1 h.1))
 ·exact e
 ·exact Lv e (h.2 y ((b y).2 k.1))
theorem gM.iff{p q:LK->Prop}(a:∀x,p x↔q x){x:LK}(h:gM p x):gM q x:=⟨(a x).1 h.1,fun y d=>h.2 y ((a y).2 d)⟩
theorem RW.pos(h:RW E g n a):1<=n:=by cases h <;> omega
theorem RW.walk(h:RW E g n a):aR E n a g:=by
 induction h with
 | one h=>exact aR.one h
 | step h _ _ ih=>exact .step h ih
theorem RW.far :∀{n:Nat} {a:LK},RW E g n a->∃m,m<=n/\dQ E g m a:=by
 intro n
 induction n using Nat.strongRecOn with
 | ind n ih=>
  intro a h;by_cases d:∃m,m<n/\RW E g m a
  ·obtain⟨m,b,c⟩:=d;obtain⟨q,f,e⟩:=ih m b c;exact⟨q,by omega,e⟩
  ·exact⟨n,JP _,h,fun m b c=>d ⟨m,b,c⟩⟩
theorem dQ.unique{m:Nat}(h:dQ E g n a)(k:dQ E g m a):n=m:=by
 rcases Ls n m with e|e|e
 ·exact Lv h.1 (k.2 n e)
 ·exact e
 ·exact Lv k.1 (h.2 m e)
theorem dQ.one :dQ E g 1 a↔E a g:=by
 constructor
 ·intro h;generalize e:(1:Nat)=n at h;have c:=h.1;cases c with
  | one h=>exact h
  | step _ _ r=>have:=r.pos;omega
 ·intro h;exact⟨.one h,fun m i d=>by have:=d.pos;omega⟩
theorem dQ.succ(t:1<=n):dQ E g (n+1) a↔(∃b,E a b/\aP g b/\dQ E g n b)/\∀m,m<=n->¬dQ E g m a:=by
 constructor
 ·intro h;refine⟨?_,fun m i j=>h.2 m (by omega) j.1⟩;have c:=h.1;generalize v:n+1=w at c;cases c with
  | one h=>omega
  | @step q _ b c hb r=>
   have k:q=n:=by omega
   subst k;obtain⟨m,f,d⟩:=r.far;rcases Nat.lt_or_ge m q with e|e
   ·exact Lv (RW.step c hb d.1) (h.2 (m+1) (by omega))
   ·have:m=q:=by omega
    subst this;exact⟨b,c,hb,d⟩
 ·rintro⟨⟨b,c,f,d⟩,l⟩;refine⟨.step c f d.1,fun m i p=>?_⟩;obtain⟨q,x,s⟩:=p.far;exact l q (by omega) s
theorem dQ.levels :∀{n:Nat} {a:LK},dQ E g n a->∃l:List LK,l.length=n/\(∀x∈l,∃y,E x y)/\(∀i (c:i<l.length),dQ E g (i+1) l[i]):=by
 intro n
 induction n with
 | zero=>intro a h;have:=h.1.pos;omega
 | succ n ih=>
  intro a h;have e:∃y,E a y:=by
   have f:=h.1;cases f with
   | one h=>exact⟨_,h⟩
   | step h _ _=>exact⟨_,h⟩
  by_cases m:n=0
  ·subst m;exact⟨[a],rfl,fun x d=>by rw[JY] at d;rw[d];exact e,fun i c=>by
    simp at c;subst c;exact h⟩
  ·obtain⟨⟨b,f,_,p⟩,_⟩:=(dQ.succ (by omega)).1 h;obtain⟨l,j,q,r⟩:=ih p;refine⟨l++ [a],by simp[j],fun x d=>?_,fun i c=>?_⟩
   ·rcases JZ.1 d with g|g
    ·exact q x g
    ·rw[JY] at g;rw[g];exact e
   ·by_cases k:i<l.length
    ·rw[List.getElem_append_left k];exact r i k
    ·have:i=l.length:=by simp at c;omega
     subst this;simp only[List.getElem_append_right (JP _),Nat.sub_self,List.getElem_cons_zero];rw[j];exact h
theorem dQ.bound(h:dQ E g n a){names:List LK}(d:∀x y,E x y->x∈names):n<=names.length:=by
 obtain⟨r,e,f,b⟩:=h.levels;rw[<-e];refine List.Nodup.length_le_of_subset ?_ (fun x i=>by obtain⟨y,j⟩:=f x i;exact d x y j);rw[List.Nodup,Ka];intro k l m p s q;have c:=b k m;rw[q] at c;have:=c.unique (b l p);omega
theorem uw{m:Nat}{t:LK}(f:∀x n,1<=n->aR E n x x->m<=n)(h:∀x,aR E m x x->¬aP x t):∀{q j:Nat} {a:LK},j+q=m->aR E j t a->aR E q a t->1<=q->RW E t q a:=by
 intro q
 induction q with
 | zero=>intro j a _ _ _ r;omega
 | succ q ih=>
  intro j a s i k _;obtain⟨y,b,c⟩:=k.first
  by_cases l:q=0
  ·subst l;have:=c.zero;subst this;exact .one b
  ·have d:aR E (j+1) t y:=i.trans (aR.one b);have p:aR E m y y:=by
    have:=c.trans d;rw[show q+ (j+1)=m by omega] at this;exact this
   refine .step b ?_ (ih (by omega) d c (by omega));rcases dI t y with e|e|e
   ·exact e
   ·subst e;have:=f t (j+1) (by omega) d;omega
   ·exact Lv e (h y p)
theorem Gu{m:Nat}{t:LK}(d:∀x n,1<=n->aR E n x x->m<=n)(i:∀x,aR E m x x->¬aP x t){j q:Nat}(A:j+ (q+1)=m)(k:aR E j t a)(p:1<=q)(y:LK):(E a y/\aP t y/\dQ E t q y)↔(E a y/\Far E t q y):=by
 constructor
 ·rintro⟨b,c,r⟩;refine⟨b,r.1.walk,fun n l f=>?_⟩;have s:=f.trans (k.trans (aR.one b));have:=d y (n+ (j+1)) (by omega) s;omega
 ·rintro⟨b,c⟩;have h:aR E (j+1) t y:=k.trans (aR.one b);have v:aR E m y y:=by
   have:=c.1.trans h;rw[show q+ (j+1)=m by omega] at this;exact this
  have w:=uw d i (by omega) h c.1 p;refine⟨b, ?_,w,fun n l f=>c.2 n l f.walk⟩;rcases dI t y with e | e | e
  ·exact e
  ·subst e;have:=d t (j+1) (by omega) h;omega
  ·exact Lv e (i y v)
theorem Er{m:Nat}{t:LK}(d:∀x n,1<=n->aR E n x x->m<=n)(e:∀x,aR E m x x->¬aP x t){q:Nat}{l:List LK}(h:kZ E t q a l):∀{j:Nat},j+q=m->aR E j t a->lS E t q a l:=by
 induction h with
 | stop a=>intro j _ _;exact .stop a
 | @step n a x l h r ih=>
  intro j f b;have i:1<=n:=by cases r <;> omega
  have c:=h.iff (Gu d e f b i);exact .step c (ih (j:=j+1) (by omega) (b.trans (aR.one c.1.1)))
theorem lS.unique{l m:List LK}(h:lS E g n a l)(k:lS E g n a m):l=m:=by
 induction h generalizing m with
 | stop a=>
  generalize d:(1:Nat)=n at k;cases k with
  | stop=>rfl
  | step _ r=>have:1<=_:=(show∀{q x l},lS E g q x l->1<=q from fun c=>by cases c <;> omega) r;omega
 | @step n a x l h r ih=>
  generalize d:n+1=f at k;cases k with
  | stop=>have:1<=n:=(show∀{q x l},lS E g q x l->1<=q from fun c=>by cases c <;> omega) r;omega
  | @step q _ y l' h' r'=>
   have e:q=n:=by omega
   subst e;have:=gM.unique (fun _=>Iff.rfl) h h';subst this;rw[ih r']
theorem qg.unique{l m:List LK}(h:qg E l)(k:qg E m):l=m:=by
 rcases h with⟨a,rfl⟩ | ⟨b,t,i,a,c,n⟩ <;> rcases k with⟨d,rfl⟩ | ⟨e,u,j,d,f,p⟩
 ·rfl
 ·exact Lv f.1 (a u e j)
 ·exact Lv c.1 (d t b i)
 ·have q:b=e:=by
   have s:=a u e j f.1;have v:=d t b i c.1;omega
  subst q;have r:=gM.unique (fun _=>Iff.rfl) c f;subst r;exact n.unique p
structure jc (E:LK->LK->Prop) (gs:List LK) (best:List LK):Prop where
 no:best=[]->∀g∈gs,∀n,¬dQ E g n g
 yes:best≠[]->∃g n,g∈gs/\dQ E g n g/\kZ E g n g best/\best.length=n/\(∀h∈gs,∀k,dQ E h k h->n<=k/\(aP h g->n<k))
theorem jc.Jo{C D:List LK}(h:jc E C D)(S:∀x y,E x y->x∈C):qg E D:=by
 by_cases I:∀x n,1<=n->¬aR E n x x
 ·refine .inl ⟨I, ?_⟩;by_cases p:D=[]
  ·exact p
  ·obtain⟨g,n,_,q,_⟩:=h.yes p;exact Lv q.1.walk (I g n q.1.pos)
 ·obtain⟨m,N,T,A⟩:∃m,1<=m/\(∃x,aR E m x x)/\∀x n,1<=n->aR E n x x->m<=n:=by
   have U:∃n,∃x,1<=n/\aR E n x x:=by
    by_cases F:∃n,∃x,1<=n/\aR E n x x
    ·exact F
    ·exact Lv (fun x n i c=>F ⟨n,x,i,c⟩) I
   have:∀n,(∃x,1<=n/\aR E n x x)->∃m,1<=m/\(∃x,aR E m x x)/\∀x n,1<=n->aR E n x x->m<=n:=by
    intro n
    induction n using Nat.strongRecOn with
    | ind n ih=>
     rintro⟨x,i,c⟩;by_cases O:∃k,k<n/\∃x,1<=k/\aR E k x x
     ·obtain⟨k,d,J⟩:=O;exact ih k d J
     ·exact⟨n,i,⟨x,c⟩,fun y k d J=>by
       rcases Nat.lt_or_ge k n with e|e
       ·exact Lv ⟨k,e,y,d,J⟩ O
       ·exact e⟩
   obtain⟨n,G⟩:=U;exact this n G
  have B:∀x,aR E m x x->x∈C:=fun x H=>by
   obtain⟨P,rfl⟩:∃P,m=P+1:=⟨m-1,by omega⟩;obtain⟨b,p,_⟩:=H.first
   exact S x b p
  obtain⟨t,f⟩:∃t,gM (fun x=>aR E m x x) t:=by
   obtain⟨x,H⟩:=T;have V:∀(l:List LK) (r:LK->Prop),(∃y∈l,r y)->∃t∈l,r t/\∀y∈l,r y->¬aP y t:=by
    intro l r
    induction l with
    | nil=>rintro⟨y,s,_⟩;cases s
    | cons z l ih=>
     rintro⟨y,s,Q⟩;by_cases v:∃y∈l,r y
     ·obtain⟨t,i,c,d⟩:=ih v;by_cases K:r z/\aP z t
      ·refine⟨z,by simp,K.1,fun u a w=>?_⟩;rcases Lb.1 a with rfl | a
       ·exact aV u
       ·exact fun L=>d u a w (fF L K.2)
      ·refine⟨t,Kl _ i,c,fun u a w=>?_⟩;rcases Lb.1 a with rfl | a
       ·exact fun L=>K ⟨w,L⟩
       ·exact d u a w
     ·have:y=z:=by
       rcases Lb.1 s with e|e
       ·exact e
       ·exact Lv ⟨y,e,Q⟩ v
      subst this;refine⟨y,by simp,Q,fun u a w=>?_⟩;rcases Lb.1 a with rfl | a
      ·exact aV u
      ·exact Lv ⟨u,a,w⟩ v
   obtain⟨t,i,c,d⟩:=V C (fun x=>aR E m x x) ⟨x,B x H,H⟩;exact⟨t,c,fun y s=>d y (B y s) s⟩
  have M:dQ E t m t:=⟨uw A f.2 (j:=0) (by omega) (.here t) f.1 N,fun n G R=>by
   have:=A t n R.pos R.walk;omega⟩
  have p:D≠[]:=fun e=>h.no e t (B t f.1) m M
  obtain⟨g,n,X,q,F,_,v⟩:=h.yes p;have G:n=m:=by
   have i:=(v t (B t f.1) m M).1;have c:=A g n q.1.pos q.1.walk;omega
  subst G;have W:g=t:=by
   rcases dI g t with e|e|e
   ·exact Lv e (f.2 g q.1.walk)
   ·exact e
   ·have:=(v t (B t f.1) n M).2 e;omega
  subst W;exact .inr ⟨n,g,N,A,f,Er A f.2 F (j:=0) (by omega) (.here g)⟩
end
def mW(w:LP):Prop:=3<w.heap.size/\w.cell? ⟨3,15,none⟩=some (.int .u8 4)
theorem mW.kept{w w':LP}(h:mW w)(k:K_ w w'):mW w':=⟨JQ h.1 k.size,by rw[k.cell h.1];exact h.2⟩
theorem Ho(w:LP)(h:mW w):Calls prog 215 #[.int .u64 16] w fun e w'=>e= .returned (.int .i64 4)/\w'=w:=by
 have b:IntKind.u64.wrap (bits BinOp.and IntKind.u64 16 (IntKind.u64.wrap (-16))*285870213051353865) / 288230376151711744=15:=by decide+kernel
 have c:=h.2;go_enter func215,ntmps215
 go_wp2_with (simp only[b])
 go_ret
 exact⟨rfl,rfl⟩
theorem JB(w:LP)(h:mW w):Calls prog 213 #[.int .u64 16] w fun e w'=>e= .returned (.int .i64 4)/\w'=w:=by
 go_enter func213,ntmps213
 go_wp2_with fail
 refine (Ho _ h).mono ?_;rintro e w1 ⟨rfl,rfl⟩;go_wp2
 go_ret
 exact⟨rfl,rfl⟩
