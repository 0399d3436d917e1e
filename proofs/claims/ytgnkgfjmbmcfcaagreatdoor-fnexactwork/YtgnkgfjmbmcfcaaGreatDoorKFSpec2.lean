import Derived.Lib.Join
import Derived.Lib.Repeat
import Derived.Test.YtgnkgfjmbmcfcaaGreatDoorKWGo4
import Derived.Test.YtgnkgfjmbmcfcaaGreatDoorKWSpec
set_option maxRecDepth 100000
set_option maxHeartbeats 25600000
namespace Go.Proofs.YtgnkgfjmbmcfcaaGreatDoor
open Go.RowKit Go.Proofs.Tryz
def Ns :List UInt8:=[48,49,50,51,52,53,54,55,56,57,97,98,99,100,101,102]
def pV(n:Nat):UInt8:=Ns.getD n 0
def ky :Nat->Nat->List UInt8
 | 0,_=>[]
 | k+1,v=>pV (v / 16 ^ k % 16) :: ky k v
theorem iO :∀k v,(ky k v).length=k
 | 0,_=>rfl
 | k+1,v=>by simp[ky,iO k v]
theorem DT :∀(k v i:Nat) (h:i<(ky k v).length),(ky k v)[i]=pV (v / 16 ^ (k-1-i) % 16)
 | 0,_,_,h=>aB h
 | k+1,v,0,_=>by simp[ky]
 | k+1,v,i+1,h=>by
  have a:i<(ky k v).length:=by simpa[ky] using h
  have e:k+1-1-(i+1)=k-1-i:=by omega
  rw[e,<-DT k v i a];simp[ky]
theorem El(j v:Nat)(h:v<16 ^ j):∀m,ky (m+j) v=List.replicate m 48++ky j v
 | 0=>by simp
 | m+1=>by
  have e:m+1+j= (m+j)+1:=by omega
  rw[e,ky,El j v h m];have c:v / 16 ^ (m+j)=0:=by
   apply Nat.div_eq_of_lt;exact OV h (Nat.pow_le_pow_right (by omega) (by omega))
  rw[c]
  rfl
def dN(v:Int)(b:UInt8):Int:=IntKind.u64.wrap (bits BinOp.xor IntKind.u64 v (b.toNat:Int)*1099511628211)
def sumOf(l:List UInt8):Int:=l.foldl dN 14695981039346656037
theorem AB(b:UInt8):IntKind.u64.wrap (b.toNat:Int)= (b.toNat:Int):=by
 have:=b.toNat_lt;rw[IntKind.wrap_u64];omega
theorem yf(v:Int)(b:UInt8):0<=dN v b/\dN v b<18446744073709551616:=by
 unfold dN;rw[IntKind.wrap_u64];omega
theorem pY :∀(l:List UInt8) (v:Int),0<=v/\v<18446744073709551616->0<=l.foldl dN v/\l.foldl dN v<18446744073709551616
 | [],_,h=>h
 | b :: r,v,_=>pY r _ (yf v b)
theorem sV(l:List UInt8):0<=sumOf l/\sumOf l<18446744073709551616:=pY l _ (by omega)
theorem rW(l:List UInt8)(k:Nat)(h:k<l.length):(l.take (k+1)).foldl dN 14695981039346656037=dN ((l.take k).foldl dN 14695981039346656037) (l.getD k 0):=by
 rw[Pb h,List.foldl_append];simp[List.getD,h]
def kQ(give:List UInt8)(ts:List (List UInt8)):List UInt8:=give++40 :: (Lib.join ts [44]++ [41])
def mX(give:List UInt8)(ts:List (List UInt8)):List UInt8:=
 if 30<give.length\/100<ts.length\/(∃t∈ts,200<t.length) then []
 else if (kQ give ts).length<=200 then kQ give ts
 else 35 :: ky 16 (sumOf (kQ give ts)).toNat
theorem MQ(ts:List (List UInt8))(n:Nat)(h:∀t∈ts,t.length<=n):(Lib.join ts [44]).length<=ts.length*(n+1):=by
 cases ts with
 | nil=>simp[Lib.join_nil]
 | cons x r=>
  rw[Lib.join_cons,PM,Lib.joinTail_length];have d:=h x (by simp);have e:Lib.lens r<=r.length*n:=by
   have:∀(q:List (List UInt8)),(∀t∈q,t.length<=n)->Lib.lens q<=q.length*n:=by
    intro q
    induction q with
    | nil=>intro _;simp[Lib.lens]
    | cons y q ih=>
     intro b;have f:=b y (by simp);have c:=ih (fun t a=>b t (by simp[a]));simp only[Lib.lens,List.map_cons,List.sum_cons,PP,Nat.succ_mul] at c⊢;omega
   exact this r (fun t a=>h t (by simp[a]))
  simp only[PP,List.length_nil,PD,Nat.one_mul];have:(r.length+1)*(n+1)=r.length*n+r.length+n+1:=by rw[Nat.add_mul,Nat.mul_add];omega
  omega
theorem pE(ts:List (List UInt8))(k:Nat)(h:k<ts.length):
  Lib.join (ts.take (k+1)) [44]=Lib.join (ts.take k) [44]++ ((if 0<k then [44] else [])++ts.getD k []):=by
 cases ts with
 | nil=>simp at h
 | cons x r=>
  cases k with
  | zero=>simp[Lib.join_one,Lib.join_nil]
  | succ k=>
   have b:k<r.length:=by simpa using h
   rw[List.take_succ_cons,List.take_succ_cons,Lib.join_cons,Lib.join_cons,Lib.joinTail_take_succ [44] r k (r.getD k []) (by simp[List.getD,b])];simp[List.append_assoc]
def texts(l:List Qw):List (List UInt8):=l.map (·.data.toList)
def oO(give:Qw)(l:List Qw):Qw:=⟨(mX give.data.toList (texts l)).toArray⟩
theorem kM(l:List Qw):(texts l).length=l.length:=by simp[texts]
theorem yh(l:List Qw)(k:Nat)(h:k<l.length):(texts l).getD k []= (l.getD k ByteArray.empty).data.toList:=by simp[texts,List.getD,h]
variable {give : Qw} {l : List Qw}
theorem kR(h:30<give.size\/100<l.length\/∃i,i<l.length/\200<(l.getD i ByteArray.empty).size):oO give l=ByteArray.empty:=by
 unfold oO mX;rw[Qg]
 ·rfl
 ·rcases h with h|h|⟨i,b,c⟩
  ·left;simpa using h
  ·right;left;simpa[texts] using h
  ·right;right
   refine⟨(l.getD i ByteArray.empty).data.toList, ?_,by simpa using c⟩;simp[texts,List.getD,b];exact⟨_,Pf b,rfl⟩
def qm(give:Qw)(l:List Qw):Prop:=give.size<=30/\l.length<=100/\∀i,i<l.length->(l.getD i ByteArray.empty).size<=200
theorem qm.not(h:qm give l):¬(30<give.data.toList.length\/100<(texts l).length\/(∃t∈texts l,200<t.length)):=by
 rintro (g|g|⟨t,c,g⟩)
 ·have:=h.1;simp at g;omega
 ·have:=h.2.1;simp[texts] at g;omega
 ·simp only[texts,Pv] at c;obtain⟨x,e,rfl⟩:=c;obtain⟨i,d,rfl⟩:=Ph e;have:=h.2.2 i d;simp[List.getD,d] at this g;omega
variable {b : Qw}
theorem xN(h:qm give l)(a:b.data.toList=kQ give.data.toList (texts l))(d:b.size<=200):oO give l=b:=by
 unfold oO mX;rw[Qh h.not,Qg (by rw[<-a];simpa using d),<-a]
theorem Ay(h:qm give l)(a:b.data.toList=kQ give.data.toList (texts l))(d:200<b.size):oO give l= ⟨(35 :: ky 16 (sumOf b.data.toList).toNat).toArray⟩:=by
 unfold oO mX;rw[Qh h.not,Qh (by rw[<-a];simp;omega),<-a]
theorem Cn{a:Qw}(h:a.data.toList=b.data.toList):a=b:=by
 cases a;cases b;simp at h;simp[h]
theorem fG(a b:Qw):(a++b).data.toList=a.data.toList++b.data.toList:=by simp[ByteArray.data_append]
theorem lX{a:Qw}(h:a=b):Ending.returned (.string a)= .returned (.string b):=by rw[h]
theorem Mv(n:Nat)(h:n<16):(((⟨#[48,49,50,51,52,53,54,55,56,57,97,98,99,100,101,102]⟩:Qw).extract n 16).extract 0 1).data.toList=[pV n]:=by
 have:∀m:Fin 16,(((⟨#[48,49,50,51,52,53,54,55,56,57,97,98,99,100,101,102]⟩:Qw).extract m.val 16).extract 0 1).data.toList=[pV m.val]:=by decide+kernel
 exact this ⟨n,h⟩
structure Q_ where
 name:Qw
 over:Bool
 fail:Bool
 text:Qw
 at':Int
 Zq:Int
 texts:List Qw
def fK(l:List Qw)(m:Qw):Bool:=l.any fun x=>decide (x=m)
theorem dV{l:List Qw}{m:Qw}:fK l m=true↔m∈l:=by simp[fK]
def Q_.fresh(n:Qw):Q_:=⟨n,false,false,⟨#[]⟩,0,0,[]⟩
def yC(n:Qw):Qw:=(⟨#[110,111,32]⟩:Qw)++n
def oV :Qw:=⟨#[115,112,101,110,116]⟩
abbrev Env :=Qw->Option Q_
abbrev aZ :=Qw->Option fA
variable {n : Qw} {σ : Env} {r : Q_}
section
variable (W : aZ)
def bE(σ:Env)(n:Qw):Option Xz:=
 match W n with
 | none=>some ⟨true,yC n⟩
 | some _=>match σ n with
  | some r=>if r.over=true then some ⟨r.fail,r.text⟩ else none
  | none=>none
def Yz(σ:Env):List Qw->Option (List Xz)
 | []=>some []
 | a :: l=>match bE W σ a with
  | none=>none
  | some x=>match Yz σ l with
   | none=>none
   | some y=>some (x :: y)
def stepOf(a:fA)(i:Int):Xq:=a.steps.getD i.toNat Xq.zero
def aJ(xs:List Xz):List Qw:=(xs.filter fun x=>!x.fail).map (·.text)
def pW :List Xz->Nat->Option Nat
 | [],_=>none
 | x :: l,i=>if x.fail=true then some i else pW l (i+1)
def pR(t:Qw)(els:Int):List aT->Int
 | []=>els
 | c :: l=>if c.text=t then c.goto else pR t els l
def fq(s:Xq)(xs:List Xz):bW:=
 match pW xs 0 with
 | some i=>if s.fall= -1 then ⟨0,true,0,kK s i⟩ else ⟨0,false,s.fall,⟨#[]⟩⟩
 | none=>⟨0,false,if xs.length=0 then s.els else pR (mM xs s.on) s.els s.cases,⟨#[]⟩⟩
def gu(a:fA)(r:Q_):Q_×List Qw:=
 (if (stepOf a r.at').fin=true then {r with Zq:=r.Zq+1,over:=true,fail:=(stepOf a r.at').bad,text:=oO (stepOf a r.at').give r.texts} else {r with Zq:=r.Zq+1},(stepOf a r.at').asks)
def Xx(σ:Env)(r:Q_):Q_×List Qw:=
 match W r.name with
 | none=>(r,[])
 | some a=>
  if r.Zq=0 then gu a r else
  match Yz W σ (stepOf a r.at').asks with
  | none=>(r,[])
  | some xs=>
   if r.Zq=20 then ({r with over:=true,fail:=true,text:=oV},[]) else
   if (fq (stepOf a r.at') xs).over=true then ({r with Zq:=r.Zq+1,over:=true,fail:=true,text:=(fq (stepOf a r.at') xs).text},[]) else
   gu a {r with texts:=r.texts++aJ xs,at':=(fq (stepOf a r.at') xs).at'}
def bL(σ:Env)(r:Q_):Prop:=r.over=false/\(r.Zq=0\/∃a xs,W r.name=some a/\Yz W σ (stepOf a r.at').asks=some xs)
def bD(σ:Env)(n:Qw):Prop:=∃r,σ n=some r/\bL W σ r
def doX(σ:Env)(n:Qw):Env:=
 match σ n with
 | none=>σ
 | some r=>fun m=>if m=n then some (Xx W σ r).1 else
  match σ m with
  | some x=>some x
  | none=>if fK (Xx W σ r).2 m=true/\(W m).isSome=true then some (Q_.fresh m) else none
variable {W}
theorem jw(h:σ n=some r)(k:Qw):doX W σ n k=if k=n then some (Xx W σ r).1 else match σ k with | some x=>some x | none=>if fK (Xx W σ r).2 k=true/\(W k).isSome=true then some (Q_.fresh k) else none:=by
 unfold doX;rw[h]
theorem jF{m:Qw}(h:m≠n){x:Q_}(a:σ m=some x):doX W σ n m=some x:=by
 unfold doX;cases c:σ n with
 | none=>simpa using a
 | some r=>simp[h,a]
theorem mZ(h:σ n=some r):doX W σ n n=some (Xx W σ r).1:=by
 unfold doX;simp[h]
theorem FY{a:Qw}{x:Xz}(f:bD W σ n)(h:bE W σ a=some x):bE W (doX W σ n) a=some x:=by
 unfold bE at h⊢;cases c:W a with
 | none=>simpa[c] using h
 | some act=>
  simp only[c] at h⊢;cases b:σ a with
  | none=>simp[b] at h
  | some r=>
   simp only[b] at h;by_cases e:a=n
   ·subst e;obtain⟨i,d,g⟩:=f;rw[b] at d;cases d;rw[Qh (by rw[g.1];simp)] at h;cases h
   ·rw[jF e b];exact h
theorem lQ(d:bD W σ n):∀{l:List Qw} {xs:List Xz},Yz W σ l=some xs->Yz W (doX W σ n) l=some xs
 | [],_,h=>h
 | a :: l,xs,h=>by
  unfold Yz at h⊢;cases b:bE W σ a with
  | none=>simp[b] at h
  | some x=>
   simp only[b] at h;cases c:Yz W σ l with
   | none=>simp[c] at h
   | some y=>
    simp only[c] at h;rw[FY d b,lQ d c];exact h
theorem bL.mono(b:bD W σ n)(h:bL W σ r):bL W (doX W σ n) r:=
 ⟨h.1,h.2.imp id fun ⟨a,d,e,f⟩=>⟨a,d,e,lQ b f⟩⟩
theorem Em(e:bD W σ n)(h:bL W σ r):Xx W (doX W σ n) r=Xx W σ r:=by
 unfold Xx;cases f:W r.name with
 | none=>rfl
 | some a=>
  simp only;by_cases c:r.Zq=0
  ·simp[c]
  ·rcases h.2 with b|⟨g,i,b,d⟩
   ·exact Qi b c
   ·rw[f] at b;cases b;simp only[c,if_false];rw[lQ e d,d]
def Behind(p:Q_->Q_->Prop)(G:Env)(σ:Env)(n:Qw):Prop:=bD W σ n/\∃r g,σ n=some r/\G n=some g/\p r g
theorem jG(h:bL W σ r)(d:(W r.name).isSome=true):((Xx W σ r).1.Zq=r.Zq+1)\/(r.Zq=20/\(Xx W σ r).1.Zq=20/\(Xx W σ r).1.over=true):=by
 unfold Xx;cases e:W r.name with
 | none=>rw[e] at d;cases d
 | some a=>
  simp only;by_cases b:r.Zq=0
  ·left
   simp only[b,if_true];unfold gu
   split <;> simp[b]
  ·rcases h.2 with c|⟨k,i,c,j⟩
   ·exact Qi c b
   ·rw[e] at c;cases c;simp only[b,if_false,j];by_cases f:r.Zq=20
    ·right
     simp[f]
    ·left
     simp only[f,if_false];by_cases g:(fq (stepOf a r.at') i).over=true
     ·simp[g]
     ·simp only[g];unfold gu;simp only[Bool.false_eq_true,if_false]
      split <;> simp
theorem fe :(Xx W σ r).1.name=r.name:=by
 unfold Xx gu
 repeat' split
 all_goals rfl
end
variable {n : Qw}
section
variable {W : aZ}
structure Q_.Ok (W:aZ) (n:Qw) (r:Q_):Prop where
 name:r.name=n
 web:(W n).isSome=true
 lo:0<=r.Zq
 hi:r.Zq<=20
def WfX(W:aZ)(σ:Env):Prop:=∀n r,σ n=some r->r.Ok W n
theorem Ju{σ:Env}{r:Q_}(h:r.Ok W n)(c:bL W σ r):(Xx W σ r).1.Ok W n:=by
 have d:=jG c (by rw[h.name];exact h.web);refine⟨by rw[fe];exact h.name,h.web, ?_, ?_⟩
 ·have:=h.lo;rcases d with e | ⟨_,e,_⟩ <;> omega
 ·rcases d with e|⟨_,e,_⟩
  ·have:=h.hi;by_cases f:r.Zq=20
   ·exfalso
    have j:(Xx W σ r).1.Zq=r.Zq:=by
     unfold Xx;cases g:W r.name with
     | none=>rfl
     | some a=>
      simp only;rw[Qh (by omega)];rcases c.2 with b|⟨k,l,b,i⟩
      ·omega
      ·rw[g] at b;cases b;simp[i,f]
    omega
   ·omega
  ·omega
theorem Kt{σ:Env}(h:WfX W σ)(g:bD W σ n):WfX W (doX W σ n):=by
 intro m x a;obtain⟨r,f,i⟩:=g;rw[jw f] at a;by_cases e:m=n
 ·rw[Qg e] at a;cases a;rw[e];exact Ju (h n r f) i
 ·rw[Qh e] at a;cases d:σ m with
  | some y=>
   rw[d] at a;simp only[PN] at a;subst a;exact h m y d
  | none=>
   rw[d] at a;simp only at a
   split at a
   ·rename_i hc2
    cases a;exact⟨rfl,hc2.2,Int.le_refl _,by show (0:Int)<=20;omega⟩
   ·cases a
def wm(r g:Q_):Prop:=r.Zq<g.Zq\/(r.Zq=g.Zq/\g.over=true/\20<=r.Zq)
def lZ :Option Q_->Nat
 | none=>23
 | some r=>if r.over=true then 0 else 22-r.Zq.toNat
def eT(Kq:List Qw)(σ:Env):Nat:=(Kq.map fun n=>lZ (σ n)).sum
theorem LJ{σ:Env}{m:Qw}(d:WfX W σ)(f:bD W σ n):lZ (doX W σ n m)<=lZ (σ m)/\(m=n->lZ (doX W σ n m)<lZ (σ m)):=by
 obtain⟨r,a,c⟩:=f;have b:=d n r a;by_cases e:m=n
 ·subst e;have:lZ (doX W σ m m)<lZ (σ m):=by
   rw[mZ a,a];have i:=b.lo;have j:=b.hi;show (if (Xx W σ r).1.over=true then 0 else 22-(Xx W σ r).1.Zq.toNat)<(if r.over=true then 0 else 22-r.Zq.toNat);have g:(if r.over=true then 0 else 22-r.Zq.toNat)=22-r.Zq.toNat:=by rw[c.1];rfl
   rw[g];rcases jG c (by rw[b.name];exact b.web) with e|⟨e1,e,eo⟩
   ·split
    ·omega
    ·rw[e];omega
   ·rw[Qg eo];omega
  exact⟨Nat.le_of_lt this,fun _=>this⟩
 ·refine⟨?_,fun h=>Qi h e⟩;rw[jw a,Qh e];cases k:σ m with
  | some x=>exact OU _
  | none=>
   simp only
   split
   ·show 22-0<=23;omega
   ·exact OU _
theorem ul{σ:Env}(a:WfX W σ)(b:bD W σ n):∀(Kq:List Qw),eT Kq (doX W σ n)<=eT Kq σ/\(n∈Kq->eT Kq (doX W σ n)<eT Kq σ)
 | []=>⟨OU _,fun h=>by cases h⟩
 | m :: l=>by
  obtain⟨g,c⟩:=ul a b l;obtain⟨i,d⟩:=LJ (m:=m) a b;have e:eT (m :: l) (doX W σ n)=lZ (doX W σ n m)+eT l (doX W σ n):=by simp[eT]
  have f:eT (m :: l) σ=lZ (σ m)+eT l σ:=by simp[eT]
  rw[e,f];refine⟨by omega,fun h=>?_⟩;rcases PS.1 h with h | h
  ·have:=d h.symm;omega
  ·have:=c h;omega
end
theorem Tryz.EH :(prog.info? 112).map (fun i=>(i.zero,i.size,i.bytes))=some (some (.agg #[.bool false,.string ByteArray.empty]),2,24):=by kernel_rfl
def dx(l:List Xz):List QA:=(l.map Xz.cells).flatten
theorem uF(l:List Xz):(dx l).length=l.length*2:=by
 induction l with
 | nil=>rfl
 | cons c r ih=>simp only[dx,List.map_cons,List.flatten_cons,PM,PP] at ih⊢;rw[ih];simp[Xz.cells];omega
theorem pG(l:List Xz)(c:Xz):dx (l++ [c])=dx l++c.cells:=by simp[dx]
theorem qK :∀(l:List Xz) (i j:Nat),i<l.length->j<2->(dx l)[i*2+j]? = ((l.getD i Xz.zero).cells)[j]?
 | [],_,_,h,_=>aB h
 | c :: r,0,j,_,hj=>by
  have e:dx (c :: r)=c.cells++dx r:=rfl;rw[e,Nat.zero_mul,PD,PY (by simpa[Xz.cells] using hj)]
  rfl
 | c :: r,i+1,j,h,hj=>by
  have e:dx (c :: r)=c.cells++dx r:=rfl;have b:c.cells.length=2:=rfl;rw[e,PZ (by rw[b];omega),b,show (i+1)*2+j-2=i*2+j by omega,qK r i j (by simpa using h) hj]
  rfl
def NK(w:Qy)(a:Qx)(l:List Xz):Prop:=
 l=[]\/∃b cur fr,a=some ⟨b,0,none⟩/\w.heap[b]? =some (Obj.cells cur 112 fr)/\∀i,i<l.length->w.rangeAt b (i*2) (l.getD i Xz.zero).cells
theorem NK.answers{w:Qy}{a:Qx}{l:List Xz}(h:NK w a l):eP w a l:=by
 rcases h with rfl|⟨c,g,j,d,e,f⟩
 ·intro i b;simp at b
 ·exact fun i b=>⟨c,0,d,aV e,by rw[PD];exact f i b⟩
theorem jY{w:Qy}{base:Nat}{v:QA}{n:Nat}{l:List Xz}(h:w.ownsRow base 112 2 v n (dx l)):∃a cap,v= .slice a l.length cap/\l.length<=cap/\NK w a l:=by
 have d:n=l.length:=by have:=h.1;rw[uF] at this;omega
 subst d;rcases h.2 with⟨rfl,b⟩|⟨g,cap,e,rfl,q,f,k,_,_,_⟩
 ·exact⟨none,0,by rw[b],by omega,.inl (Qo b)⟩
 ·refine⟨_,cap,rfl,k,.inr ⟨g,e,_,rfl,f,fun i m j u c=>?_⟩⟩;have p:j<2:=by have:=(O_.1 c).1;simpa[Xz.cells] using this
  have:=h.cells (g:=g) rfl (i*2+j) u (by rw[qK l i j m p];exact c);rw[PQ,PD] at this;exact this
theorem Cf(w:Qy)(asks:Nat)(b:Int)(cases:Nat)(c d:Int)(m:Bool)(f:Qw)(p q:Qx)(ca cc:Nat)(n:Int)(r:asks<=maxLen)(h2:cases<=maxLen)(s:f.size<=maxLen):
  Calls prog 96 #[.agg #[.slice p asks ca,.int .i64 b,.slice q cases cc,.int .i64 c,.int .i64 d,.bool true,.bool m,.string f],.int .i64 n] w
   fun e w'=>Says e (asks=0/\b=0/\cases=0/\c=0/\d=0/\f.size<=30)/\K_ w w':=by
 unfold maxLen at r h2 s;have a:K_ w (w.alloc (.cells #[.slice p asks ca,.int .i64 b,.slice q cases cc,.int .i64 c,.int .i64 d,.bool true,.bool m,.string f] 172)):=ak _ _;cases g:((asks:Int) == 0)
 ·go_enter func96,ntmps96
  go_wp2
  go_ret
  exact⟨Says.no fun h=>by simp at g;omega,a⟩
 ·obtain rfl:asks=0:=by simp at g;omega
  clear g;cases i:(b == 0)
  ·go_enter func96,ntmps96
   go_wp2
   go_ret
   exact⟨Says.no fun h=>by simp at i;omega,a⟩
  ·obtain rfl:b=0:=by simpa using i
   clear i;cases j:((cases:Int) == 0)
   ·go_enter func96,ntmps96
    go_wp2
    go_ret
    exact⟨Says.no fun h=>by simp at j;omega,a⟩
   ·obtain rfl:cases=0:=by simp at j;omega
    clear j;cases k:(c == 0)
    ·go_enter func96,ntmps96
     go_wp2
     go_ret
     exact⟨Says.no fun h=>by simp at k;omega,a⟩
    ·obtain rfl:c=0:=by simpa using k
     clear k;cases l:(d == 0)
     ·go_enter func96,ntmps96
      go_wp2
      go_ret
      exact⟨Says.no fun h=>by simp at l;omega,a⟩
     ·obtain rfl:d=0:=by simpa using l
      clear l;by_cases t:(f.size:Int)<=30
      ·go_enter func96,ntmps96
       go_wp2
       go_ret
       exact⟨Says.yes (by simp;omega),a⟩
      ·go_enter func96,ntmps96
       go_wp2
       go_ret
       exact⟨Says.no fun h=>by omega,a⟩
theorem yA(w:Qy)(s:Xq)(f h:Qx)(ca cc:Nat)(n:Int)(c:s.Fits)(r:0<=n/\n<=20)
  (j:Strs w f s.asks) (k:dw w h s.cases) (t:s.fin=false) (v:Hid (¬wO s n)):
  Calls prog 96 #[.agg #[.slice f s.asks.length ca,.int .i64 s.on,.slice h s.cases.length cc,.int .i64 s.els,.int .i64 s.fall,.bool s.fin,.bool s.bad,.string s.give],.int .i64 n] w
   fun e w'=>e= .returned (.bool false)/\K_ w w':=by
 rw[t];obtain⟨H,I⟩:=r;have x:=c.asks;have y:=c.cases;have z:=c.give;unfold maxLen at x y z;have l:=tV s.give;have A:=Kz l;clear l;cases B:s.bad
 ·have b:K_ w (w.alloc (.cells #[.slice f s.asks.length ca,.int .i64 s.on,.slice h s.cases.length cc,.int .i64 s.els,.int .i64 s.fall,.bool false,.bool false,.string s.give] 172)):=ak _ _;go_enter func96,ntmps96
  go_wp2_with fail
  ·have C:Hid (s.give.size=0):=A.o.1 (by assumption);refine (pK _ f ca s.asks c.asks c.wV (j.kept b)).mono ?_;rintro e J ⟨i,d⟩;have a:=b.trans d;rcases i.cases with⟨rfl,m⟩|⟨rfl,K⟩
   ·have D:=Kz m;clear m i;obtain⟨L,M⟩:=d.rules;have E:=d.size;simp only[PL] at E;clear b d;have N:=k.kept a;clear k j;by_cases O:(s.cases.length:Int)<=5
    ·by_cases P:0<=s.els
     ·cases p:decide (s.els<=n-1)
      ·have F:n-1<s.els:=by simpa using p
       go_wp2
       go_ret
       exact⟨rfl,a⟩
      ·have F:s.els<=n-1:=by simpa using p
       by_cases Q: -1<=s.fall
       ·cases q:decide (s.fall<=n-1)
        ·have G:n-1<s.fall:=by simpa using q
         go_wp2
         go_ret
         exact⟨rfl,a⟩
        ·have G:s.fall<=n-1:=by simpa using q
         have g:¬(s.on=0\/(0<=s.on/\s.on<s.asks.length)):=fun g=>v.out ⟨B,C.o,by omega,D.o,by omega,⟨by omega,by omega⟩,⟨by omega,by omega⟩,g⟩
         have R:(s.on != 0)=true:=bne_iff_ne.2 (by omega);by_cases S:0<=s.on
         ·have T:s.asks.length-1<s.on:=by omega
          have U:decide (s.on<=(s.asks.length:Int)-1)=false:=by simp;omega
          clear g;go_wp2
          go_ret
          exact⟨rfl,a⟩
         ·clear g;go_wp2
          go_ret
          exact⟨rfl,a⟩
       ·go_wp2
        go_ret
        exact⟨rfl,a⟩
     ·go_wp2
      go_ret
      exact⟨rfl,a⟩
    ·go_wp2
     go_ret
     exact⟨rfl,a⟩
   ·clear i b d;go_wp2
    go_ret
    exact⟨rfl,a⟩
  ·go_ret
   exact⟨rfl,b⟩
  ·go_ret
   exact⟨rfl,b⟩
 ·go_enter func96,ntmps96
  go_wp2
  go_ret
  exact⟨rfl,ak _ _⟩
theorem xx(w:Qy)(f:Qw)(a:Qx)(cap:Nat)(l:List Qw)(J:f.size<=maxLen)(K:l.length<=maxLen)(B:∀s∈l,s.size<=maxLen)(L:Strs w a l):
  Calls prog 171 #[.string f,.slice a l.length cap] w fun e w'=>e= .returned (.string (oO f l))/\K_ w w':=by
 unfold maxLen at J K B;by_cases Z:(f.size:Int)<=30
 ·by_cases a0:(l.length:Int)<=100
  ·go_enter func171,ntmps171
   go_wp2
   go_loop [5,6] (fun x i=>∃(k:Nat) (b:Qw),k<=l.length/\i= .int .i64 k/\x= .string b/\b.data.toList=f.data.toList++40 :: Lib.join ((texts l).take k) [44]/\(∀j,j<k->(l.getD j ByteArray.empty).size<=200)/\b.size<=31+k*201) (fun _ i=>l.length-(intOf i).toNat)
   case atStart=>exact⟨0,_,OW _,rfl,rfl,by rw[fG];simp[Lib.join_nil],fun j q=>aB q,by have e:(⟨#[40]⟩:Qw).size=1:=rfl;rw[ByteArray.size_append,e];omega⟩
   case round=>
    obtain⟨k,b,hk,rfl,rfl,r,q,C⟩:=hrel;have⟨h,z⟩:=aD r q;clear r q;by_cases p:k<l.length
    ·obtain⟨g,o,rfl,a1,hc⟩:=L k p;have a2:=B (l.getD k ByteArray.empty) (by simp[List.getD,p]);generalize D:l.getD k ByteArray.empty=M at *;have t:=Kz D;clear D;by_cases h3:(M.size:Int)<=200
     ·by_cases h4:(0:Int)<k
      ·go_wp2
       go_round
       case rel=>
        have y:=pE (texts l) k (by rw[kM];exact p);rw[yh l k p,t.o,Qg (by omega)] at y;refine⟨k+1,_,by omega,by go_num,rfl, ?_,fun j q=>?_, ?_⟩
        ·rw[y];simp only[fG,h.o];simp
        ·by_cases e:j=k
         ·subst e;rw[t.o];omega
         ·exact z.o j (by omega)
        ·simp only[ByteArray.size_append];have:(⟨#[44]⟩:Qw).size=1:=rfl;omega
       case measure=>simp[intOf];omega
      ·go_wp2
       go_round
       case rel=>
        have y:=pE (texts l) k (by rw[kM];exact p);rw[yh l k p,t.o,Qh (by omega)] at y;refine⟨k+1,_,by omega,by go_num,rfl, ?_,fun j q=>?_, ?_⟩
        ·rw[y];simp only[fG,h.o];simp
        ·by_cases e:j=k
         ·subst e;rw[t.o];omega
         ·exact z.o j (by omega)
        ·simp only[ByteArray.size_append];have:(⟨#[44]⟩:Qw).size=1:=rfl;omega
       case measure=>simp[intOf];omega
     ·go_wp2
      go_ret
      exact⟨lX (kR (.inr (.inr ⟨k,p,by rw[t.o];omega⟩))).symm,K_.refl _⟩
    ·have N:k=l.length:=by omega
     have E:Hid ((b++ ⟨#[41]⟩).data.toList=kQ f.data.toList (texts l)):=by
      show _=_;rw[fG,h.o,N,<-kM,PE];simp[kQ]
     have F:Hid (qm f l):=⟨by omega,by omega,fun i hi=>z.o i (by omega)⟩;have O:(b++ ⟨#[41]⟩:Qw).size=b.size+1:=by rw[ByteArray.size_append];rfl
     by_cases P:(b.size:Int)+1<=200
     ·go_wp2
      go_ret
      exact⟨lX (xN F.o E.o (by omega)).symm,K_.refl _⟩
     ·go_wp2
      have a3:(b++ ⟨#[41]⟩:Qw).size<=100000:=by omega
      have Q:200<(b++ ⟨#[41]⟩:Qw).size:=by omega
      clear O P C h;generalize (b++ ⟨#[41]⟩:Qw)=c at *;go_loop [7,8] (fun v i=>∃k:Nat,k<=c.size/\i= .int .i64 k/\v= .int .u64 ((c.data.toList.take k).foldl dN 14695981039346656037)) (fun _ i=>c.size-(intOf i).toNat)
      case atStart=>exact⟨0,OW _,rfl,rfl⟩
      case round=>
       obtain⟨m,hm,rfl,rfl⟩:=hrel;by_cases R:m<c.size
       ·have G:m<c.data.toList.length:=by simpa using R
        have S:Hid ((c.data.toList.take (m+1)).foldl dN 14695981039346656037=dN ((c.data.toList.take m).foldl dN 14695981039346656037) c[m]):=by
         have e:=rW c.data.toList m G;rw[List.getD_eq_getElem?_getD,OZ G,Ql] at e;exact e
        generalize (c.data.toList.take m).foldl dN 14695981039346656037=v at *;go_wp2
        go_round
        case rel=>exact⟨m+1,by omega,by go_num,by rw[S.o];rw[AB];rfl⟩
        case measure=>simp[intOf];omega
       ·have T:m=c.data.toList.length:=by simp;omega
        subst T;rw[PE];have U:=sV c.data.toList;have A:Hid (oO f l= ⟨(35 :: ky 16 (sumOf c.data.toList).toNat).toArray⟩):=Ay F.o E.o Q;unfold sumOf at U A;generalize List.foldl dN 14695981039346656037 c.data.toList=V at *;obtain⟨v,rfl⟩:∃v:Nat,V=v:=⟨V.toNat,by omega⟩;rw[Int.toNat_natCast] at A;go_wp2
        go_loop [7,9,10] (fun x d i=>∃(k:Nat) (b:Qw),k<=16/\i= .int .i64 k/\x= .int .u64 ((v / 16 ^ k:Nat):Int)/\d= .string b/\b.data.toList=ky k v) (fun _ _ i=>16-(intOf i).toNat)
        case atStart=>exact⟨0,ByteArray.empty,OW _,rfl,by simp,rfl,rfl⟩
        case round=>
         obtain⟨n,b,hn,rfl,rfl,rfl,r⟩:=hrel;have h:=Kz r;clear r;have C:b.size<=16:=by have:=congrArg List.length h.o;rw[iO] at this;simp at this;omega
         by_cases a4:(n:Int)<16
         ·have W:(v / 16 ^ n) % 16<16:=Nat.mod_lt _ (by omega);have H:v / 16 ^ n / 16=v / 16 ^ (n+1):=by rw[Nat.div_div_eq_div_mul,Nat.pow_succ]
          have X:=Kz H;clear H;have a5:v / 16 ^ n<18446744073709551616:=Nat.lt_of_le_of_lt (Nat.div_le_self _ _) (by omega);generalize I:v / 16 ^ n=u at *;have Y:=Kz I;clear I;go_wp2
          go_round
          case rel=>
           refine⟨n+1,_,by omega,by go_num,by rw[<-X.o];simp,rfl, ?_⟩;rw[fG,Mv _ W,h.o,ky,Y.o]
           rfl
          case measure=>simp[intOf];omega
         ·go_wp2
          go_ret
          obtain rfl:n=16:=by omega
          exact⟨lX (by rw[A.o];apply Cn;rw[fG,h.o];rfl),K_.refl _⟩
  ·go_enter func171,ntmps171
   go_wp2
   go_ret
   exact⟨by rw[kR (by omega)];rfl,K_.refl _⟩
 ·go_enter func171,ntmps171
  go_wp2
  go_ret
  exact⟨by rw[kR (by omega)];rfl,K_.refl _⟩
