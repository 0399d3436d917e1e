import Derived.WalkKit
import Derived.Lib.Join
import Derived.Lib.Repeat
import Derived.Laws.Bits64b
set_option maxRecDepth 100000
set_option maxHeartbeats 25600000
namespace Go.Proofs.YtgnkgfjmbmcfcaaGreatDoor
open Go.RowKit
def hexTab :List UInt8:=[48,49,50,51,52,53,54,55,56,57,97,98,99,100,101,102]
def hexDig (n:Nat):UInt8:=hexTab.getD n 0
def hexL :Nat->Nat->List UInt8
 | 0,_=> []
 | k+1,v=> hexDig (v / 16 ^ k % 16) :: hexL k v
theorem hexL_length : ∀k v,(hexL k v).length=k
 | 0,_=> rfl
 | k+1,v=> by simp [hexL,hexL_length k v]
theorem hexL_get : ∀(k v i:Nat) (h:i < (hexL k v).length),(hexL k v)[i]=hexDig (v / 16 ^ (k - 1 - i) % 16)
 | 0,_,_,h=> absurd h (Nat.not_lt_zero _)
 | k+1,v,0,_=> by simp [hexL]
 | k+1,v,i+1,h=> by
  have h':i < (hexL k v).length:=by simpa [hexL] using h
  have e:k+1 - 1 - (i+1)=k - 1 - i:=by omega
  rw [e,<-hexL_get k v i h']
  simp [hexL]
theorem hexL_pad (j v:Nat) (h:v < 16 ^ j): ∀m,hexL (m+j) v=List.replicate m 48++hexL j v
 | 0=> by simp
 | m+1=> by
  have e:m+1+j= (m+j)+1:=by omega
  rw [e,hexL,hexL_pad j v h m]
  have h0:v / 16 ^ (m+j)=0:=by
   apply Nat.div_eq_of_lt
   exact Nat.lt_of_lt_of_le h (Nat.pow_le_pow_right (by omega) (by omega))
  rw [h0]
  rfl
def sumStep (v:Int) (b:UInt8):Int:=IntKind.u64.wrap (bits BinOp.xor IntKind.u64 v (b.toNat:Int) * 1099511628211)
def sumOf (l:List UInt8):Int:=l.foldl sumStep 14695981039346656037
theorem wrap_byte (b:UInt8):IntKind.u64.wrap (b.toNat:Int)= (b.toNat:Int):=by
 have:=b.toNat_lt
 rw [IntKind.wrap_u64]
 omega
theorem sumStep_bounds (v:Int) (b:UInt8):0<=sumStep v b∧sumStep v b < 18446744073709551616:=by
 unfold sumStep
 rw [IntKind.wrap_u64]
 omega
theorem sumFold_bounds : ∀(l:List UInt8) (v:Int),0<=v∧v < 18446744073709551616->0<=l.foldl sumStep v∧l.foldl sumStep v < 18446744073709551616
 | [],_,h=> h
 | b :: r,v,_=> sumFold_bounds r _ (sumStep_bounds v b)
theorem sumOf_bounds (l:List UInt8):0<=sumOf l∧sumOf l < 18446744073709551616:=sumFold_bounds l _ (by omega)
theorem sumTake_succ (l:List UInt8) (k:Nat) (h:k < l.length): (l.take (k+1)).foldl sumStep 14695981039346656037=sumStep ((l.take k).foldl sumStep 14695981039346656037) (l.getD k 0):=by
 rw [List.take_succ_eq_append_getElem h,List.foldl_append]
 simp [List.getD,h]
def wholeOf (give:List UInt8) (ts:List (List UInt8)):List UInt8:=give++40 :: (Lib.join ts [44]++ [41])
def finishOf (give:List UInt8) (ts:List (List UInt8)):List UInt8:=
 if 30 < give.length∨100 < ts.length∨(∃t∈ts,200 < t.length) then []
 else if (wholeOf give ts).length<=200 then wholeOf give ts
 else 35 :: hexL 16 (sumOf (wholeOf give ts)).toNat
theorem join_le (ts:List (List UInt8)) (n:Nat) (h: ∀t∈ts,t.length<=n): (Lib.join ts [44]).length<=ts.length * (n+1):=by
 cases ts with
 | nil=> simp [Lib.join_nil]
 | cons x r=>
  rw [Lib.join_cons,List.length_append,Lib.joinTail_length]
  have hx:=h x (by simp)
  have hr:Lib.lens r<=r.length * n:=by
   have: ∀(q:List (List UInt8)),(∀t∈q,t.length<=n)->Lib.lens q<=q.length * n:=by
    intro q
    induction q with
    | nil=> intro _;simp [Lib.lens]
    | cons y q ih=>
     intro hq
     have h1:=hq y (by simp)
     have h2:=ih (fun t ht=> hq t (by simp [ht]))
     simp only [Lib.lens,List.map_cons,List.sum_cons,List.length_cons,Nat.succ_mul] at h2⊢
     omega
   exact this r (fun t ht=> h t (by simp [ht]))
  simp only [List.length_cons,List.length_nil,Nat.zero_add,Nat.one_mul]
  have: (r.length+1) * (n+1)=r.length * n+r.length+n+1:=by rw [Nat.add_mul,Nat.mul_add];omega
  omega
theorem join_take_succ (ts:List (List UInt8)) (k:Nat) (h:k < ts.length):
  Lib.join (ts.take (k+1)) [44]=Lib.join (ts.take k) [44]++ ((if 0 < k then [44] else [])++ts.getD k []):=by
 cases ts with
 | nil=> simp at h
 | cons x r=>
  cases k with
  | zero=> simp [Lib.join_one,Lib.join_nil]
  | succ k=>
   have hk:k < r.length:=by simpa using h
   rw [List.take_succ_cons,List.take_succ_cons,Lib.join_cons,Lib.join_cons,Lib.joinTail_take_succ [44] r k (r.getD k []) (by simp [List.getD,hk])]
   simp [List.append_assoc]
