import Derived.Test.YtgnkgfjmbmcfcaaGreatDoorKFFmt
set_option maxRecDepth 100000
set_option maxHeartbeats 25600000
namespace Go.Proofs.YtgnkgfjmbmcfcaaGreatDoor
open Go.RowKit Go.Proofs.Tryz
theorem NR(u:Nat)(h:u<18446744073709551616):bits BinOp.and IntKind.u64 (u:Int) 15= ((u % 16:Nat):Int):=by
 have e:=bits_and_u64_nat u 15 h (by omega);rw[show ((15:Nat):Int)=15 from rfl] at e;rw[e,show (15:Nat)=2 ^ 4-1 from rfl,Nat.and_two_pow_sub_one_eq_mod]
theorem Ka{j v:Nat}(h:v<18446744073709551616)(a:16<=v / 16 ^ j):j+1<=15:=by
 have c:16 ^ (j+1)<=v:=by
  rw[Nat.pow_succ];have:=Nat.div_mul_le_self v (16 ^ j);have:=Nat.mul_le_mul_right (16 ^ j) a;rw[Nat.mul_comm] at this;omega
 apply Decidable.byContradiction;intro d;have e:16 ^ 16<=16 ^ (j+1):=Nat.pow_le_pow_right (by omega) (by omega);have f:(16:Nat) ^ 16=18446744073709551616:=by decide
 omega
theorem Row.at0{w:Qy}{b n i:Nat}(h:Row w b n)(hi:i<n):(∃v,w.cell? ⟨b,i,none⟩=some v)/\w.frozen? ⟨b,i,none⟩=false:=by
 obtain⟨t,f,h⟩:=h;exact⟨⟨_,h.cell hi⟩,h.frozen i⟩
theorem Nc(n:Nat)(h:n<16)(b:n<(⟨#[48,49,50,51,52,53,54,55,56,57,97,98,99,100,101,102,103,104,105,106,107,108,109,110,111,112,113,114,115,116,117,118,119,120,121,122]⟩:Qw).size):
  (⟨#[48,49,50,51,52,53,54,55,56,57,97,98,99,100,101,102,103,104,105,106,107,108,109,110,111,112,113,114,115,116,117,118,119,120,121,122]⟩:Qw)[n]=pV n:=by
 have:∀m:Fin 16,(⟨#[48,49,50,51,52,53,54,55,56,57,97,98,99,100,101,102,103,104,105,106,107,108,109,110,111,112,113,114,115,116,117,118,119,120,121,122]⟩:Qw)[m.val]'(OV m.isLt (by decide))=pV m.val:=by decide+kernel
 exact this ⟨n,h⟩
def Written(w:Qy)(B v j:Nat):Prop:=∀t,t<j->w.cell? ⟨B,64-t,none⟩=some (.int .u8 ((pV (v / 16 ^ t % 16)).toNat:Int))
theorem Written.set{w:Qy}{B v j p:Nat}{old:QA}(h:Written w B v j)(e:p+1+j=65)(a:w.cell? ⟨B,p,none⟩=some old){d:UInt8}(b:d=pV (v / 16 ^ j % 16)):Written (w.setCell ⟨B,p,none⟩ (.int .u8 (d.toNat:Int))) B v (j+1):=by
 intro t f;by_cases c:t=j
 ·subst c;have:64-t=p:=by omega
  rw[this,Qb _ _ _ a,b]
 ·rw[Pq _ _ _ _ (by simp <;> omega)];exact h t (by omega)
theorem Tryz.NZ :∃zs:Array QA,zs.size=65/\∀W,(zeroValue 337).run prog W= .ok (.agg zs) W:=⟨Array.replicate 65 (.int .u8 0),by simp,fun W=>by kernel_rfl⟩
theorem Tryz.Mh :prog.arrayLen 337=65:=by kernel_rfl
theorem Tryz.NW :prog.underlying 337=some (.array (prog.arrayLen 337) (prog.elem 337)):=by kernel_rfl
theorem Tryz.MZ :prog.elem 337=5:=by kernel_rfl
theorem Ov(W:Qy)(B p:Nat)(d:p<=64):(Instr.sliceAt 337 (.pointer (some ⟨B,0,none⟩)) (some (.int .i64 (p:Int))) none none).run prog W= .ok (.slice (some ⟨B,p,none⟩) (65-p) (65-p)) W:=by
 rw[run_sliceAt_array_l W 337 ⟨B,0,none⟩ Tryz.NW .i64 p (by omega) (by rw[Tryz.Mh];omega),Tryz.MZ,Tryz.Mh,Tryz.sizeOf5];have b:¬(65:Nat)=p:=by omega
 simp[Result.andThen,slicedAt,Addr.add,b];intro h;exact h.symm
theorem OB(W:Qy)(B v j p:Nat)(f:p+1+j=65)(h:Written W B v (j+1)):(convert 166 9 (.slice (some ⟨B,p,none⟩) (65-p) (65-p))).run prog W= .ok (.string ⟨(ky (j+1) v).toArray⟩) W:=by
 have b:(ky (j+1) v).length=65-p:=by rw[iO];omega
 have e:=run_convert_bytes_back (P:=prog) W 166 9 5 ⟨B,p,none⟩ (65-p) (ky (j+1) v) underlying166 underlying5 underlying9 (fun i g=>by
  have a:=h (j-i) (by omega);have c:64-(j-i)=p+i:=by omega
  rw[c] at a;have d:(⟨B,p,none⟩:Addr).add i= ⟨B,p+i,none⟩:=by simp[Addr.add]
  rw[DT,Nat.add_sub_cancel,d];exact a)
 rw[b] at e;exact e
theorem zX(w:Qy)(v:Nat)(l:v<18446744073709551616)(C:oD w):
  Calls prog 248 #[.slice none 0 0,.int .u64 v,.int .i64 16,.bool false,.bool false] w fun e w'=>(∃(n:Nat) (b:Qw),e= .returned (.tuple #[.slice none 0 0,.string b])/\b.data.toList=ky n v/\1<=n/\n<=16/\v<16 ^ n)/\K_ w w':=by
 obtain⟨a,g,M⟩:=Tryz.NZ;have N:¬a= #[]:=fun e=>by rw[e] at g;simp at g
 go_enter func248,ntmps248
 go_wp2_with (first | (go_at_call 256;refine (Og _ (C.kept (by repeat (first | apply K_.alloc | exact K_.refl _)))).mono ?_;rintro e O ⟨rfl,rfl⟩) | go_in)
 have m:Row (w.alloc (.cells a 337)) w.heap.size 65:=by have:=Row.made w a 337;rw[g] at this;exact this
 have q:K_ w (w.alloc (.cells a 337)):=ak _ _;go_loopw [1,13] (fun u D wr=>∃j:Nat,j<=15/\u= .int .u64 ((v / 16 ^ j:Nat):Int)/\(∃p:Nat,p+1+j=65/\D= .int .i64 ((p:Int)+1))/\K_ w wr/\Row wr w.heap.size 65/\Written wr w.heap.size v j) (fun u _ _=>(intOf u).toNat)
 case atStart=>exact⟨0,by omega,by simp,⟨64,by omega,rfl⟩,q,m,fun P E=>aB E⟩
 case round=>
  obtain⟨j,Q,rfl,⟨p,h,rfl⟩,r,i,s⟩:=hrel;clear m q;obtain⟨c,R⟩:=i.at0 (i:=p) (by omega);obtain⟨old,c⟩:=c;have⟨F,t⟩:=aD i s;clear i s;have G:v / 16 ^ j<18446744073709551616:=Nat.lt_of_le_of_lt (Nat.div_le_self _ _) l;have x:v / 16 ^ j / 16=v / 16 ^ (j+1):=by rw[Nat.div_div_eq_div_mul,Nat.pow_succ]
  have H:=Kz x;clear x;have k:Hid (16<=v / 16 ^ j->j+1<=15):=Ka l;have I:Hid (v / 16 ^ j<16->v<16 ^ (j+1)):=fun J=>by
   have:=Nat.lt_mul_of_div_lt J (Nat.pow_pos (by omega));rw[Nat.pow_succ,Nat.mul_comm];exact this
  generalize y:v / 16 ^ j=u at *;have z:=Kz y;clear y;have S:=NR u G;have K:u % 16<16:=Nat.mod_lt _ (by omega);by_cases T:(16:Int)<=u
  ·go_wp2
   go_roundw
   case rel=>
    refine⟨j+1,k.o (by omega),by rw[<-H.o];simp,⟨p-1,by have:=k.o (by omega);omega,by congr 1;have:=k.o (by omega);omega⟩,K_.setCell r (OU _) _,Row.set F.o _ rfl _, ?_⟩;exact Written.set t.o h c (by rw[Nc _ K,z.o])
   case measure=>simp[intOf];omega
  ·have f:u<16:=by omega
   have hcut:∀W,(Instr.sliceAt 337 (.pointer (some ⟨w.heap.size,0,none⟩)) (some (.int .i64 (p:Int))) none none).run prog W= .ok (.slice (some ⟨w.heap.size,p,none⟩) (65-p) (65-p)) W:=fun W=>Ov W _ _ (by omega)
   have A:=fun W=>OB W w.heap.size v j p h
   have B:=fun L=>Kz (Written.set t.o h c (d:=(⟨#[48,49,50,51,52,53,54,55,56,57,97,98,99,100,101,102,103,104,105,106,107,108,109,110,111,112,113,114,115,116,117,118,119,120,121,122]⟩:Qw)[u]'L) (by rw[Nc _ f,z.o,Nat.mod_eq_of_lt f]))
   have U:=A _ (B (OV f (by decide))).out;clear A B;go_wp2
   go_ret2
   exact⟨⟨j+1,_,rfl,rfl,by omega,by omega,I.o f⟩,K_.setCell r (OU _) _⟩
