import Derived.Test.YtlfofiaagibapaaGreatDoorKCResO
import Derived.Test.YtlfofiaagibapaaGreatDoorRows
import Derived.ProofKit
import Derived.LaidMore
import Derived.OpenShut
import Derived.Stop.Joined
set_option maxRecDepth 100000
set_option maxHeartbeats 25600000
namespace Go.Proofs.YtlfofiaagibapaaGreatDoor
open Go.RowKit Go.Proofs.Tryz
theorem JI(w:NN)(s:NL)(d:s.size<=maxLen):Calls prog 177 #[.string s] w λe w'=>e=.returned (.int .u64 (sumOf s.data.toList))/\K_ w w':=by
 unfold maxLen at d;let⟨l,C,f,h,a⟩:=zf w s;go_enter func177,ntmps177
 go_wp2
 clear h;go_loopw [3,9] (λx i wr=>∃k:Nat,k<=s.size/\i=.a k/\x=.int .u64 ((s.data.toList.take k).foldl dX 14695981039346656037)/\wr= (w.alloc (.cells C 5 f)).drew) (λ_ i _=>s.size-(intOf i).toNat)
 case atStart=>exact⟨0,Ml _,rfl,rfl,rfl⟩
 case round=>
  obtain⟨k,m,rfl,rfl,rfl⟩:=hrel;by_cases b:k<s.size
  .have n:=a k b;have c:k<s.data.toList.length:=by simpa using b
   have j:Hid ((s.data.toList.take (k+1)).foldl dX 14695981039346656037=dX ((s.data.toList.take k).foldl dX 14695981039346656037) s[k]):=by
    have e:=tC s.data.toList k c;rw[List.getD_eq_getElem?_getD,Mq c,NC] at e;exact e
   generalize (s.data.toList.take k).foldl dX 14695981039346656037=v at *;clear a;go_wp2
   go_roundw
   case rel=>exact⟨k+1,E5,F3,by rw[j.o];rw[zW];rfl,by first|rfl|trivial⟩
   case measure=>simp[intOf];omega
  .go_wp2
   go_ret
   have:k=s.data.toList.length:=F6;subst this;rw[MS];exact⟨rfl,(ah _ _).drew⟩
def oF(w:NN):Prop:=3<w.heap.size/\w.cell? ⟨3,15,none⟩=some (.int .u8 4)
theorem oF.kept{w w':NN}(h:oF w)(k:K_ w w'):oF w':=⟨Mk h.1 k.size,by rw[k.cell h.1];exact h.2⟩
theorem JQ(w:NN)(h:oF w):Calls prog 245 #[.int .u64 16] w λe w'=>e=.returned (.a 4)/\w'=w:=by
 have b:IntKind.u64.wrap (bits BinOp.and IntKind.u64 16 (IntKind.u64.wrap (-16))*285870213051353865) / 288230376151711744=15:=by decide+kernel
 have c:=h.2;go_enter func245,ntmps245
 go_wp2_with (simp only[b])
 go_ret
 exact⟨rfl,rfl⟩
theorem LP(w:NN)(h:oF w):Calls prog 243 #[.int .u64 16] w λe w'=>e=.returned (.a 4)/\w'=w:=by
 go_enter func243,ntmps243
 go_wp2_with fail
 refine (JQ _ h).mono ?_;rintro e b ⟨rfl,rfl⟩;go_wp2
 go_ret
 exact⟨rfl,rfl⟩
theorem Li(u:Nat)(h:u<18446744073709551616):bits BinOp.and IntKind.u64 (u:Int) 15= ((u % 16:Nat):Int):=by
 have e:=bits_and_u64_nat u 15 h E5;rw[show ((15:Nat):Int)=15 from rfl] at e;rw[e,show (15:Nat)=2 ^ 4-1 from rfl,Nat.and_two_pow_sub_one_eq_mod]
theorem IZ{j v:Nat}(h:v<18446744073709551616)(a:16<=v / 16 ^ j):j+1<=15:=by
 have c:16 ^ (j+1)<=v:=by
  rw[Nat.pow_succ];have:=Nat.div_mul_le_self v (16 ^ j);have:=Nat.mul_le_mul_right (16 ^ j) a;rw[Nat.mul_comm] at this;omega
 apply Decidable.byContradiction;intro d;have e:16 ^ 16<=16 ^ (j+1):=Nat.pow_le_pow_right E5 E5;have f:(16:Nat) ^ 16=18446744073709551616:=E8;omega
theorem Row.at0{w:NN}{b n i:Nat}(h:Row w b n)(hi:i<n):(∃v,w.cell? ⟨b,i,none⟩=some v)/\w.frozen? ⟨b,i,none⟩=false:=by
 let⟨t,f,h⟩:=h;exact⟨⟨_,h.cell hi⟩,h.frozen i⟩
theorem KL(n:Nat)(h:n<16)(b:n<(⟨#[48,49,50,51,52,53,54,55,56,57,97,98,99,100,101,102,103,104,105,106,107,108,109,110,111,112,113,114,115,116,117,118,119,120,121,122]⟩:NL).size):(⟨#[48,49,50,51,52,53,54,55,56,57,97,98,99,100,101,102,103,104,105,106,107,108,109,110,111,112,113,114,115,116,117,118,119,120,121,122]⟩:NL)[n]=oM n:=by
 have:∀m:Fin 16,(⟨#[48,49,50,51,52,53,54,55,56,57,97,98,99,100,101,102,103,104,105,106,107,108,109,110,111,112,113,114,115,116,117,118,119,120,121,122]⟩:NL)[m.val]'(Mk m.isLt E8)=oM m.val:=by decide+kernel
 exact this ⟨n,h⟩
def Written(w:NN)(B v j:Nat):Prop:=∀t,t<j->w.cell? ⟨B,64-t,none⟩=some (.int .u8 ((oM (v / 16 ^ t % 16)).toNat:Int))
theorem Written.set{w:NN}{B v j p:Nat}{old:NP}(h:Written w B v j)(e:p+1+j=65)(a:w.cell? ⟨B,p,none⟩=some old){d:UInt8}(b:d=oM (v / 16 ^ j % 16)):Written (w.setCell ⟨B,p,none⟩ (.int .u8 (d.toNat:Int))) B v (j+1):=by
 intro t f;by_cases c:t=j
 .subst c;have:64-t=p:=E5;rw[this,Ns _ _ _ a,b]
 .rw[MJ _ _ _ _ F8];exact h t E5
theorem Tryz.LA :∃zs:Array NP,zs.size=65/\∀W,(zeroValue 299).run prog W=.ok (.agg zs) W:=⟨Array.replicate 65 (.int .u8 0),E9,λW=>F4⟩
theorem Tryz.JC :prog.arrayLen 299=65:=F4
theorem Tryz.LC :prog.underlying 299=some (.array (prog.arrayLen 299) (prog.elem 299)):=F4
theorem Tryz.Kn :prog.elem 299=5:=F4
theorem Mc(W:NN)(B p:Nat)(d:p<=64):(Instr.sliceAt 299 (.c B) (some (.a (p:Int))) none none).run prog W=.ok (.slice (some ⟨B,p,none⟩) (65-p) (65-p)) W:=by
 rw[run_sliceAt_array_l W 299 ⟨B,0,none⟩ Tryz.LC .i64 p E5 (by rw[Tryz.JC];omega),Tryz.Kn,Tryz.JC,Tryz.sizeOf5];have b:¬(65:Nat)=p:=E5;simp[Result.andThen,slicedAt,Addr.add,b];intro h;exact h.symm
theorem LW(W:NN)(B v j p:Nat)(f:p+1+j=65)(h:Written W B v (j+1)):(convert 22 9 (.slice (some ⟨B,p,none⟩) (65-p) (65-p))).run prog W=.ok (.string ⟨(jI (j+1) v).toArray⟩) W:=by
 have b:(jI (j+1) v).length=65-p:=by rw[iL];omega
 have e:=run_convert_bytes_back (P:=prog) W 22 9 5 ⟨B,p,none⟩ (65-p) (jI (j+1) v) underlying22 underlying5 underlying9 (λi k=>by
  have a:=h (j-i) E5;have c:64-(j-i)=p+i:=E5;rw[c] at a;have d:(⟨B,p,none⟩:Addr).add i= ⟨B,p+i,none⟩:=by simp[Addr.add]
  rw[CV,Nat.add_sub_cancel,d];exact a)
 rw[b] at e;exact e
theorem yf(w:NN)(v:Nat)(m:v<18446744073709551616)(D:oF w):Calls prog 235 #[M3,.int .u64 v,.a 16,.bool false,.bool false] w λe w'=>(∃(n:Nat)(b:NL),e=.returned (.tuple #[M3,.string b])/\b.data.toList=jI n v/\1<=n/\n<=16/\v<16 ^ n)/\K_ w w':=by
 let⟨a,h,N⟩:=Tryz.LA;have O:¬a= #[]:=λe=>by rw[e] at h;simp at h
 go_enter func235,ntmps235
 go_wp2_with (first|(go_at_call 243;refine (LP _ (D.kept G9)).mono ?_;rintro e P ⟨rfl,rfl⟩)|go_in)
 have q:Row (w.alloc (.cells a 299)) w.heap.size 65:=by have:=Row.made w a 299;rw[h] at this;exact this
 have r:K_ w (w.alloc (.cells a 299)):=ah _ _;go_loopw [1,13] (λu E wr=>∃j:Nat,j<=15/\u=.int .u64 ((v / 16 ^ j:Nat):Int)/\(∃p:Nat,p+1+j=65/\E=.a ((p:Int)+1))/\K_ w wr/\Row wr w.heap.size 65/\Written wr w.heap.size v j) (λu _ _=>(intOf u).toNat)
 case atStart=>exact⟨0,E5,E9,⟨64,E5,rfl⟩,r,q,λQ F=>aO F⟩
 case round=>
  obtain⟨j,R,rfl,⟨p,i,rfl⟩,s,k,t⟩:=hrel;clear q r;let⟨c,S⟩:=k.at0 (i:=p) E5;let⟨old,c⟩:=c;have⟨G,x⟩:=aH k t;clear k t;have H:v / 16 ^ j<18446744073709551616:=Nat.lt_of_le_of_lt (Nat.div_le_self _ _) m;have y:v / 16 ^ j / 16=v / 16 ^ (j+1):=by rw[Nat.div_div_eq_div_mul,Nat.pow_succ]
  have I:=Kz y;clear y;have l:Hid (16<=v / 16 ^ j->j+1<=15):=IZ m;have J:Hid (v / 16 ^ j<16->v<16 ^ (j+1)):=λK=>by
   have:=Nat.lt_mul_of_div_lt K (Nat.pow_pos E5);rw[Nat.pow_succ,Nat.mul_comm];exact this
  generalize z:v / 16 ^ j=u at *;have A:=Kz z;clear z;have T:=Li u H;have L:u % 16<16:=Nat.mod_lt _ E5;by_cases U:(16:Int)<=u
  .go_wp2
   go_roundw
   case rel=>
    refine⟨j+1,l.o E5,by rw[<-I.o];simp,⟨p-1,by have:=l.o E5;omega,by congr 1;have:=l.o E5;omega⟩,K_.setCell s (Mj _) _,Row.set G.o _ rfl _,?_⟩;exact Written.set x.o i c (by rw[KL _ L,A.o])
   case measure=>simp[intOf];omega
  .have f:u<16:=E5;have hcut:∀W,(Instr.sliceAt 299 (.c w.heap.size) (some (.a (p:Int))) none none).run prog W=.ok (.slice (some ⟨w.heap.size,p,none⟩) (65-p) (65-p)) W:=λW=>Mc W _ _ E5
   have B:=λW=>LW W w.heap.size v j p i
   have C:=λM=>Kz (Written.set x.o i c (d:=(⟨#[48,49,50,51,52,53,54,55,56,57,97,98,99,100,101,102,103,104,105,106,107,108,109,110,111,112,113,114,115,116,117,118,119,120,121,122]⟩:NL)[u]'M) (by rw[KL _ f,A.o,Nat.mod_eq_of_lt f]))
   have V:=B _ (C (Mk f E8)).out;clear B C;go_wp2
   go_ret2
   exact⟨⟨j+1,_,rfl,rfl,E5,E5,J.o f⟩,K_.setCell s (Mj _) _⟩
open Go.ChangeShapes Go.WideShapes Go.ChangeAt Go.RowKit
def laid3 {H : Type} : List (String × DataW H) := [("math/bits.deBruijn32tab", Rows.laid_math_bits_deBruijn32tab), ("math/bits.deBruijn64tab", Rows.laid_math_bits_deBruijn64tab), ("internal/strconv.uint64pow10", Rows.laid_internal_strconv_uint64pow10)]
theorem Tryz.gTab : Tryz.prog.globalNamed "math/bits.deBruijn64tab" = some 3 := by kernel_rfl
theorem Tryz.tTab :(prog.globals[3]?).map (·.type)=some 301:=F4
theorem Iq(os:Os)(args:Array NP):laidMetH prog laid3 ((World.doorLaid prog 400 os).forCall (λ_ _=>0) ⟨#[],args,[]⟩).memory:=laidMetH_of_parts3 (fuel:=8) (laidMet_of_run' 8 F4 F4) F4 F4
theorem BG{W:NN}(h:laidMetH prog laid3 W):oF W:=by
 rw[MakeChecks.laidMetH_plain _ _ _ F4] at h;let⟨y,⟨z,A,B,C,D,E,F,G,H,I,⟨J,K,j,L,M,N,c,k,m,n,_,_⟩,_⟩,_,_⟩:=h;obtain rfl:=Nl (Tryz.gTab.symm.trans c);obtain rfl:=Nl (Tryz.tTab.symm.trans k);obtain⟨p,O,rfl,d,P,q,r⟩:=DataW.trod_array underlying301 n;have s:prog.cellsOf 5=1:=F4;have e:=r 15 E8;simp only[Prod.mk.injEq,Rows.laid_math_bits_deBruijn64tab,DataW.agg.injEq] at d;have f:15<p.length:=by rw[q];decide
 have a:=congrArg (λl=>l[15]?) d.1;simp only[List.getElem?_map,Mq f,Option.map_some] at a;rw[Mq f] at e;let⟨t,i,v,_⟩:=DataW.trod_int underlying5 e;have w:t=4:=by
  rw[v] at a;simpa using a.symm
 subst w;have b:=World.var?_cell c m 15;rw[s] at i;have x:j.toList[15]? =some (.int .u8 4):=by
  have:=congrArg (λl=>l[0]?) i;simpa[List.getElem?_take,List.getElem?_drop] using this
 rw[<-Array.getElem?_toList,x] at b;exact⟨World.block_lt_of_cell? _ _ b,b⟩
