import Derived.Test.YtjbipapbckajnaaGreatDoorKOPutB
import Derived.Test.YtjbipapbckajnaaGreatDoorKShelfS
import Derived.Test.YtjbipapbckajnaaGreatDoorKFFmt
set_option maxRecDepth 100000
set_option maxHeartbeats 25600000
namespace Go.Proofs.YtjbipapbckajnaaGreatDoor
open Go.RowKit Go.Proofs.Tryz
theorem Gi{a b:Ps}(h:(a.toList == b.toList)=true):a=b:=by
 have c:a.toList=b.toList:=by simpa using h
 rw[ByteArray.toList_eq,ByteArray.toList_eq] at c;cases a;cases b;simp at c;rw[c]
theorem uP(w:Pv)(a:Pt)(p:Nat)(l:List Ps)(x:Ps)(v:l.length<=1048576)(q:Strs w a l):
  Calls prog 112 #[.slice a l.length p,.string x] w λe w'=>Says e (x∈l)/\w'=w:=by
 go_enter func112,ntmps112
 go_wp2
 go_loopw [5] (λi wr=>∃k:Nat,k<=l.length/\i= .a (k:Int)/\Hid (x∉l.take k)/\wr=w) (λi _=>l.length-(intOf i).toNat)
 case atStart=>exact⟨0,NS _,rfl,Kz A9,rfl⟩
 case round=>
  obtain⟨k,z,rfl,j,rfl⟩:=hrel;by_cases c:k<l.length
  .obtain⟨b,o,r,A,s⟩:=q k c;subst r;obtain⟨y,d⟩:=ai (l.getD k ByteArray.empty);rw[<-d] at s;have m:l[k]=y:=by rw[d];simp[List.getD,c]
   have n:=Kz m;have B:(k:Int)<(l.length:Int):=A7;clear d m;cases f:(y.toList == x.toList)
   .go_wp2
    go_roundw
    case rel=>
     refine⟨k+1,A7,C8,Kz (λh=>?_),trivial⟩;rw[NY c,n.o] at h;rcases N_.1 h with h | h
     .exact j.o h
     .rw[NZ] at h;rw[h] at f;simp at f
    case measure=>simp[intOf];omega
   .go_wp2
    go_ret
    exact⟨Says.yes (by rw[<-Gi f,<-n.o];exact Oa c),rfl⟩
  .have C:¬((k:Int)<(l.length:Int)):=A7;have t:Hid (x∉l):=by have h:=j.o;rw[Oy A7] at h;exact h
   clear c;go_wp2
   go_ret
   exact⟨Says.no t.o,rfl⟩
theorem ni(w:Pv)(s:Ps)(b:s.size<=1048576):Calls prog 24 #[.string s] w λe w'=>e= .returned (.string s)/\K_ w w':=by
 go_enter func24,ntmps24
 go_wp2_with fail
 refine (Tryz.stringslite_Clone s _ A7).mono ?_;rintro e c ⟨rfl,a⟩;go_wp2
 go_ret
 exact⟨rfl,a⟩
theorem jC(w:Pv)(a:Pt)(A:Nat)(l:List Ps)(N:l.length<=1048576)(B:∀s∈l,s.size<=1048576)(C:Strs w a l):
  Calls prog 23 #[.slice a l.length A,.func (.func 24) #[] #[]] w λe w'=>∃a',e= .returned (.slice a' l.length l.length)/\bW w' w.heap.size w'.heap.size a' l/\K_ w w':=by
 by_cases r:l.length=0
 .have D:l=[]:=Pj r;subst D;go_enter func23,ntmps23
  go_wp2
  go_ret
  exact⟨none,rfl,.inl rfl,K_.refl _⟩
 .have E:=run_make_row' (P:=prog) 26 9 _ _ underlying26 Tryz.Gt rfl .i64 .i64 l.length A7 A7;have F:((l.length:Int) == 0)=false:=by simpa using r
  go_enter func23,ntmps23
  go_wp2
  clear E F;have t:Row (w.alloc (.cells (madeCells #[.string ByteArray.empty] l.length) 9)) w.heap.size l.length:=⟨_,_,World.rowIs_made w (.string ByteArray.empty) l.length 9⟩;have v:K_ w (w.alloc (.cells (madeCells #[.string ByteArray.empty] l.length) 9)):=Below.alloc (Below.refl _ _) (NQ _) _;go_loopw [16] (λi wr=>∃k:Nat,k<=l.length/\i= .a k/\K_ w wr/\Row wr w.heap.size l.length/\∀j,j<k->wr.cell? ⟨w.heap.size,j,none⟩=some (.string (l.getD j ByteArray.empty))) (λi _=>l.length-(intOf i).toNat)
  case atStart=>exact⟨0,NS _,rfl,v,t,λj d=>aT d⟩
  case round=>
   obtain⟨k,O,rfl,f,c,x⟩:=hrel;clear t v;have m:=Kz x;by_cases n:k<l.length
   .obtain⟨b,o,rfl,Q,y⟩:=C.kept f k n;have z:=B (l.getD k ByteArray.empty) (by simp[List.getD,n]);obtain⟨s,p⟩:=ai (l.getD k ByteArray.empty);rw[<-p] at y z;have G:=Kz p;clear p x;have H:=c.lt;go_wp2_with fail
    refine (ni _ s z).mono ?_;rintro e I ⟨rfl,h⟩;have q:=c.kept h;have J:=Kz q;have K:Hid (∀j,j<k->I.cell? ⟨w.heap.size,j,none⟩=some (.string (l.getD j ByteArray.empty))):=λj d=>by rw[h.cell H];exact m.o j d
    obtain⟨⟨old,L⟩,R⟩:=q.at n;have M:=f.trans h;clear m c q f h y;go_wp2
    go_roundw
    case rel=>
     refine⟨k+1,A7,C8,M.setCell (NQ _) _,J.o.set _ rfl _,λj d=>?_⟩;by_cases e:j=k
     .subst e;rw[OX _ _ _ L,G.o]
     .rw[Ol _ _ _ _ D7];exact K.o j A7
    case measure=>simp[intOf];omega
   .have:k=l.length:=A7;subst this;go_wp2
    go_ret
    exact⟨_,rfl,.inr ⟨w.heap.size,rfl,NQ _,c.lt,c,m.o⟩,f⟩
theorem BC(w:Pv)(asks:Nat)(on:Int)(cases:Nat)(els fall:Int)(bad:Bool)(give:Ps)(j k:Pt)(l m:Nat)(n:Int)(p:asks<=maxLen)(h2:cases<=maxLen)(q:give.size<=maxLen):
  Calls prog 120 #[.agg #[.slice j asks l,.a on,.slice k cases m,.a els,.a fall,.bool true,.bool bad,.string give],.a n] w
   λe w'=>Says e (asks=0/\on=0/\cases=0/\els=0/\fall=0/\give.size<=30)/\K_ w w':=by
 unfold maxLen at p h2 q;have a:K_ w (w.alloc (.cells #[.slice j asks l,.a on,.slice k cases m,.a els,.a fall,.bool true,.bool bad,.string give] 176)):=ah _ _;cases b:((asks:Int) == 0)
 .go_enter func120,ntmps120
  go_wp2
  go_ret
  exact⟨Says.no λh=>by simp at b;omega,a⟩
 .obtain rfl:asks=0:=by simp at b;omega
  clear b;cases c:(on == 0)
  .go_enter func120,ntmps120
   go_wp2
   go_ret
   exact⟨Says.no λh=>by simp at c;omega,a⟩
  .obtain rfl:on=0:=by simpa using c
   clear c;cases d:((cases:Int) == 0)
   .go_enter func120,ntmps120
    go_wp2
    go_ret
    exact⟨Says.no λh=>by simp at d;omega,a⟩
   .obtain rfl:cases=0:=by simp at d;omega
    clear d;cases f:(els == 0)
    .go_enter func120,ntmps120
     go_wp2
     go_ret
     exact⟨Says.no λh=>by simp at f;omega,a⟩
    .obtain rfl:els=0:=by simpa using f
     clear f;cases i:(fall == 0)
     .go_enter func120,ntmps120
      go_wp2
      go_ret
      exact⟨Says.no λh=>by simp at i;omega,a⟩
     .obtain rfl:fall=0:=by simpa using i
      clear i;by_cases r:(give.size:Int)<=30
      .go_enter func120,ntmps120
       go_wp2
       go_ret
       exact⟨Says.yes D6,a⟩
      .go_enter func120,ntmps120
       go_wp2
       go_ret
       exact⟨Says.no λh=>A7,a⟩
theorem yL(w:Pv)(s:Xj)(f i:Pt)(j l:Nat)(n:Int)(c:s.Fits)(x:0<=n/\n<=20)
  (m:Strs w f s.asks) (p:lI w i s.cases) (y:s.fin=false) (z:Hid (¬wC s n)):
  Calls prog 120 #[.agg #[.slice f s.asks.length j,.a s.on,.slice i s.cases.length l,.a s.els,.a s.fall,.bool s.fin,.bool s.bad,.string s.give],.a n] w
   λe w'=>e= .returned (.bool false)/\K_ w w':=by
 rw[y];obtain⟨K,L⟩:=x;have A:=c.asks;have B:=c.cases;have C:=c.give;unfold maxLen at A B C;have q:=um s.give;have D:=Kz q;clear q;cases E:s.bad
 .have b:K_ w (w.alloc (.cells #[.slice f s.asks.length j,.a s.on,.slice i s.cases.length l,.a s.els,.a s.fall,.bool false,.bool false,.string s.give] 176)):=ah _ _;go_enter func120,ntmps120
  go_wp2_with fail
  .have F:Hid (s.give.size=0):=D.o.1 G6;refine (lZ _ f j s.asks c.asks c.eZ (m.kept b)).mono ?_;rintro e M ⟨k,d⟩;have a:=b.trans d;rcases k.cases with⟨rfl,r⟩|⟨rfl,N⟩
   .have G:=Kz r;clear r k;obtain⟨O,P⟩:=d.rules;have H:=d.size;simp only[OC] at H;clear b d;have Q:=p.kept a;clear p m;by_cases R:(s.cases.length:Int)<=5
    .by_cases S:0<=s.els
     .cases t:decide (s.els<=n-1)
      .have I:n-1<s.els:=by simpa using t
       go_wp2
       go_ret
       exact⟨rfl,a⟩
      .have I:s.els<=n-1:=by simpa using t
       by_cases T: -1<=s.fall
       .cases v:decide (s.fall<=n-1)
        .have J:n-1<s.fall:=by simpa using v
         go_wp2
         go_ret
         exact⟨rfl,a⟩
        .have J:s.fall<=n-1:=by simpa using v
         have h:¬(s.on=0\/(0<=s.on/\s.on<s.asks.length)):=λh=>z.out ⟨E,F.o,A7,G.o,A7,⟨A7,A7⟩,⟨A7,A7⟩,h⟩
         have U:(s.on != 0)=true:=bne_iff_ne.2 A7;by_cases V:0<=s.on
         .have W:s.asks.length-1<s.on:=A7;have X:decide (s.on<=(s.asks.length:Int)-1)=false:=D6;clear h;go_wp2
          go_ret
          exact⟨rfl,a⟩
         .clear h;go_wp2
          go_ret
          exact⟨rfl,a⟩
       .go_wp2
        go_ret
        exact⟨rfl,a⟩
     .go_wp2
      go_ret
      exact⟨rfl,a⟩
    .go_wp2
     go_ret
     exact⟨rfl,a⟩
   .clear k b d;go_wp2
    go_ret
    exact⟨rfl,a⟩
  .go_ret
   exact⟨rfl,b⟩
  .go_ret
   exact⟨rfl,b⟩
 .go_enter func120,ntmps120
  go_wp2
  go_ret
  exact⟨rfl,ah _ _⟩
theorem Tryz.yO :(prog.info? 80).map (λi=>(i.zero,i.size,i.bytes))=some (some (.agg #[.bool false,.string ByteArray.empty]),2,24):=C9
def bO(l:List Xq):List Pw:=(l.map Xq.cells).flatten
theorem uF(l:List Xq):(bO l).length=l.length*2:=by
 induction l with
 | nil=>rfl
 | cons c r ih=>simp only[bO,List.map_cons,List.flatten_cons,OD,OH] at ih⊢;rw[ih];simp[Xq.cells];omega
theorem lF(l:List Xq)(c:Xq):bO (l++ [c])=bO l++c.cells:=by simp[bO]
theorem rJ :∀(l:List Xq) (i j:Nat),i<l.length->j<2->(bO l)[i*2+j]? = ((l.getD i Xq.zero).cells)[j]?
 | [],_,_,h,_=>aT h
 | c :: r,0,j,_,hj=>by
  have e:bO (c :: r)=c.cells++bO r:=rfl;rw[e,Nat.zero_mul,Ow,OU (by simpa[Xq.cells] using hj)]
  rfl
 | c :: r,i+1,j,h,hj=>by
  have e:bO (c :: r)=c.cells++bO r:=rfl;have b:c.cells.length=2:=rfl;rw[e,OV (by rw[b];omega),b,show (i+1)*2+j-2=i*2+j by omega,rJ r i j (by simpa using h) hj]
  rfl
def MJ(w:Pv)(a:Pt)(l:List Xq):Prop:=
 l=[]\/∃b cur fr,a=some ⟨b,0,none⟩/\w.heap[b]? =some (Obj.cells cur 80 fr)/\∀i,i<l.length->w.rangeAt b (i*2) (l.getD i Xq.zero).cells
theorem MJ.answers{w:Pv}{a:Pt}{l:List Xq}(h:MJ w a l):eU w a l:=by
 rcases h with rfl|⟨c,j,k,d,e,f⟩
 .intro i b;simp at b
 .exact λi b=>⟨c,0,d,aO e,by rw[Ow];exact f i b⟩
theorem gH{w:Pv}{base:Nat}{v:Pw}{n:Nat}{l:List Xq}(h:w.ownsRow base 80 2 v n (bO l)):∃a b,v= .slice a l.length b/\l.length<=b/\MJ w a l:=by
 have e:n=l.length:=by have:=h.1;rw[uF] at this;omega
 subst e;rcases h.2 with⟨rfl,c⟩|⟨g,b,f,rfl,r,k,m,_,_,_⟩
 .exact⟨none,0,by rw[c],A7,.inl (Pj c)⟩
 .refine⟨_,b,rfl,m,.inr ⟨g,f,_,rfl,k,λi p j u d=>?_⟩⟩;have q:j<2:=by have:=(NW.1 d).1;simpa[Xq.cells] using this
  have:=h.cells (g:=g) rfl (i*2+j) u (by rw[rJ l i j p q];exact d);rw[OI,Ow] at this;exact this
theorem Lj(w:Pv)(s:Ps)(d:s.size<=maxLen):
  Calls prog 172 #[.string s] w λe w'=>e= .returned (.int .u64 (sumOf s.data.toList))/\K_ w w':=by
 unfold maxLen at d;obtain⟨l,C,f,h,a⟩:=Aa w s;go_enter func172,ntmps172
 go_wp2
 clear h;go_loopw [3,9] (λx i wr=>∃k:Nat,k<=s.size/\i= .a k/\x= .int .u64 ((s.data.toList.take k).foldl d_ 14695981039346656037)/\wr= (w.alloc (.cells C 5 f)).drew) (λ_ i _=>s.size-(intOf i).toNat)
 case atStart=>exact⟨0,NS _,rfl,rfl,rfl⟩
 case round=>
  obtain⟨k,m,rfl,rfl,rfl⟩:=hrel;by_cases b:k<s.size
  .have n:=a k b;have c:k<s.data.toList.length:=by simpa using b
   have j:Hid ((s.data.toList.take (k+1)).foldl d_ 14695981039346656037=d_ ((s.data.toList.take k).foldl d_ 14695981039346656037) s[k]):=by
    have e:=t_ s.data.toList k c;rw[List.getD_eq_getElem?_getD,NV c,Ph] at e;exact e
   generalize (s.data.toList.take k).foldl d_ 14695981039346656037=v at *;clear a;go_wp2
   go_roundw
   case rel=>exact⟨k+1,A7,C8,by rw[j.o];rw[AR];rfl,by first | rfl | trivial⟩
   case measure=>simp[intOf];omega
  .go_wp2
   go_ret
   have:k=s.data.toList.length:=D6;subst this;rw[Ox];exact⟨rfl,(ah _ _).drew⟩
theorem MS(u:Nat)(h:u<18446744073709551616):bits BinOp.and IntKind.u64 (u:Int) 15= ((u % 16:Nat):Int):=by
 have e:=bits_and_u64_nat u 15 h A7;rw[show ((15:Nat):Int)=15 from rfl] at e;rw[e,show (15:Nat)=2 ^ 4-1 from rfl,Nat.and_two_pow_sub_one_eq_mod]
theorem Ka{j v:Nat}(h:v<18446744073709551616)(a:16<=v / 16 ^ j):j+1<=15:=by
 have c:16 ^ (j+1)<=v:=by
  rw[Nat.pow_succ];have:=Nat.div_mul_le_self v (16 ^ j);have:=Nat.mul_le_mul_right (16 ^ j) a;rw[Nat.mul_comm] at this;omega
 apply Decidable.byContradiction;intro d;have e:16 ^ 16<=16 ^ (j+1):=Nat.pow_le_pow_right A7 A7;have f:(16:Nat) ^ 16=18446744073709551616:=A8;omega
theorem Row.at0{w:Pv}{b n i:Nat}(h:Row w b n)(hi:i<n):(∃v,w.cell? ⟨b,i,none⟩=some v)/\w.frozen? ⟨b,i,none⟩=false:=by
 obtain⟨t,f,h⟩:=h;exact⟨⟨_,h.cell hi⟩,h.frozen i⟩
theorem Mt(n:Nat)(h:n<16)(b:n<(⟨#[48,49,50,51,52,53,54,55,56,57,97,98,99,100,101,102,103,104,105,106,107,108,109,110,111,112,113,114,115,116,117,118,119,120,121,122]⟩:Ps).size):
  (⟨#[48,49,50,51,52,53,54,55,56,57,97,98,99,100,101,102,103,104,105,106,107,108,109,110,111,112,113,114,115,116,117,118,119,120,121,122]⟩:Ps)[n]=o_ n:=by
 have:∀m:Fin 16,(⟨#[48,49,50,51,52,53,54,55,56,57,97,98,99,100,101,102,103,104,105,106,107,108,109,110,111,112,113,114,115,116,117,118,119,120,121,122]⟩:Ps)[m.val]'(NR m.isLt A8)=o_ m.val:=by decide+kernel
 exact this ⟨n,h⟩
def Written(w:Pv)(B v j:Nat):Prop:=∀t,t<j->w.cell? ⟨B,64-t,none⟩=some (.int .u8 ((o_ (v / 16 ^ t % 16)).toNat:Int))
theorem Written.set{w:Pv}{B v j p:Nat}{old:Pw}(h:Written w B v j)(e:p+1+j=65)(a:w.cell? ⟨B,p,none⟩=some old){d:UInt8}(b:d=o_ (v / 16 ^ j % 16)):Written (w.setCell ⟨B,p,none⟩ (.int .u8 (d.toNat:Int))) B v (j+1):=by
 intro t f;by_cases c:t=j
 .subst c;have:64-t=p:=A7;rw[this,OX _ _ _ a,b]
 .rw[Ol _ _ _ _ D7];exact h t A7
theorem Tryz.Ni :∃zs:Array Pw,zs.size=65/\∀W,(zeroValue 298).run prog W= .ok (.agg zs) W:=⟨Array.replicate 65 (.int .u8 0),A9,λW=>C9⟩
theorem Tryz.KY :prog.arrayLen 298=65:=C9
theorem Tryz.Nl :prog.underlying 298=some (.array (prog.arrayLen 298) (prog.elem 298)):=C9
theorem Tryz.Md :prog.elem 298=5:=C9
theorem NF(W:Pv)(B p:Nat)(d:p<=64):(Instr.sliceAt 298 (.c B) (some (.a (p:Int))) none none).run prog W= .ok (.slice (some ⟨B,p,none⟩) (65-p) (65-p)) W:=by
 rw[run_sliceAt_array_l W 298 ⟨B,0,none⟩ Tryz.Nl .i64 p A7 (by rw[Tryz.KY];omega),Tryz.Md,Tryz.KY,Tryz.sizeOf5];have b:¬(65:Nat)=p:=A7;simp[Result.andThen,slicedAt,Addr.add,b];intro h;exact h.symm
theorem ND(W:Pv)(B v j p:Nat)(f:p+1+j=65)(h:Written W B v (j+1)):(convert 22 9 (.slice (some ⟨B,p,none⟩) (65-p) (65-p))).run prog W= .ok (.string ⟨(jO (j+1) v).toArray⟩) W:=by
 have b:(jO (j+1) v).length=65-p:=by rw[iK];omega
 have e:=run_convert_bytes_back (P:=prog) W 22 9 5 ⟨B,p,none⟩ (65-p) (jO (j+1) v) underlying22 underlying5 underlying9 (λi k=>by
  have a:=h (j-i) A7;have c:64-(j-i)=p+i:=A7;rw[c] at a;have d:(⟨B,p,none⟩:Addr).add i= ⟨B,p+i,none⟩:=by simp[Addr.add]
  rw[Eb,Nat.add_sub_cancel,d];exact a)
 rw[b] at e;exact e
theorem yS(w:Pv)(v:Nat)(m:v<18446744073709551616)(D:oI w):
  Calls prog 225 #[J3,.int .u64 v,.a 16,.bool false,.bool false] w λe w'=>(∃(n:Nat) (b:Ps),e= .returned (.tuple #[J3,.string b])/\b.data.toList=jO n v/\1<=n/\n<=16/\v<16 ^ n)/\K_ w w':=by
 obtain⟨a,h,N⟩:=Tryz.Ni;have O:¬a= #[]:=λe=>by rw[e] at h;simp at h
 go_enter func225,ntmps225
 go_wp2_with (first | (go_at_call 232;refine (NA _ (D.kept F5)).mono ?_;rintro e P ⟨rfl,rfl⟩) | go_in)
 have q:Row (w.alloc (.cells a 298)) w.heap.size 65:=by have:=Row.made w a 298;rw[h] at this;exact this
 have r:K_ w (w.alloc (.cells a 298)):=ah _ _;go_loopw [1,13] (λu E wr=>∃j:Nat,j<=15/\u= .int .u64 ((v / 16 ^ j:Nat):Int)/\(∃p:Nat,p+1+j=65/\E= .a ((p:Int)+1))/\K_ w wr/\Row wr w.heap.size 65/\Written wr w.heap.size v j) (λu _ _=>(intOf u).toNat)
 case atStart=>exact⟨0,A7,A9,⟨64,A7,rfl⟩,r,q,λQ F=>aT F⟩
 case round=>
  obtain⟨j,R,rfl,⟨p,i,rfl⟩,s,k,t⟩:=hrel;clear q r;obtain⟨c,S⟩:=k.at0 (i:=p) A7;obtain⟨old,c⟩:=c;have⟨G,x⟩:=aH k t;clear k t;have H:v / 16 ^ j<18446744073709551616:=Nat.lt_of_le_of_lt (Nat.div_le_self _ _) m;have y:v / 16 ^ j / 16=v / 16 ^ (j+1):=by rw[Nat.div_div_eq_div_mul,Nat.pow_succ]
  have I:=Kz y;clear y;have l:Hid (16<=v / 16 ^ j->j+1<=15):=Ka m;have J:Hid (v / 16 ^ j<16->v<16 ^ (j+1)):=λK=>by
   have:=Nat.lt_mul_of_div_lt K (Nat.pow_pos A7);rw[Nat.pow_succ,Nat.mul_comm];exact this
  generalize z:v / 16 ^ j=u at *;have A:=Kz z;clear z;have T:=MS u H;have L:u % 16<16:=Nat.mod_lt _ A7;by_cases U:(16:Int)<=u
  .go_wp2
   go_roundw
   case rel=>
    refine⟨j+1,l.o A7,by rw[<-I.o];simp,⟨p-1,by have:=l.o A7;omega,by congr 1;have:=l.o A7;omega⟩,K_.setCell s (NQ _) _,Row.set G.o _ rfl _, ?_⟩;exact Written.set x.o i c (by rw[Mt _ L,A.o])
   case measure=>simp[intOf];omega
  .have f:u<16:=A7;have hcut:∀W,(Instr.sliceAt 298 (.c w.heap.size) (some (.a (p:Int))) none none).run prog W= .ok (.slice (some ⟨w.heap.size,p,none⟩) (65-p) (65-p)) W:=λW=>NF W _ _ A7
   have B:=λW=>ND W w.heap.size v j p i
   have C:=λM=>Kz (Written.set x.o i c (d:=(⟨#[48,49,50,51,52,53,54,55,56,57,97,98,99,100,101,102,103,104,105,106,107,108,109,110,111,112,113,114,115,116,117,118,119,120,121,122]⟩:Ps)[u]'M) (by rw[Mt _ f,A.o,Nat.mod_eq_of_lt f]))
   have V:=B _ (C (NR f A8)).out;clear B C;go_wp2
   go_ret2
   exact⟨⟨j+1,_,rfl,rfl,A7,A7,J.o f⟩,K_.setCell s (NQ _) _⟩
theorem zC(w:Pv)(v:Nat)(d:v<18446744073709551616)(f:oI w):
  Calls prog 215 #[.int .u64 v,.a 16] w λe w'=>(∃(n:Nat) (b:Ps),e= .returned (.string b)/\b.data.toList=jO n v/\1<=n/\n<=16/\v<16 ^ n)/\K_ w w':=by
 go_enter func215,ntmps215
 go_wp2_with fail
 refine (yS _ v d f).mono ?_;rintro e m ⟨⟨n,b,rfl,a,h,i,c⟩,j⟩;have⟨k,l⟩:=aH a c;clear a c;go_wp2
 go_ret
 exact⟨⟨n,b,rfl,k.o,h,i,l.o⟩,j⟩
theorem xN(w:Pv)(v:Nat)(d:v<18446744073709551616)(f:oI w):
  Calls prog 200 #[.int .u64 v,.a 16] w λe w'=>(∃(n:Nat) (b:Ps),e= .returned (.string b)/\b.data.toList=jO n v/\1<=n/\n<=16/\v<16 ^ n)/\K_ w w':=by
 go_enter func200,ntmps200
 go_wp2_with fail
 refine (zC _ v d f).mono ?_;rintro e m ⟨⟨n,b,rfl,a,h,i,c⟩,j⟩;have⟨k,l⟩:=aH a c;clear a c;go_wp2
 go_ret
 exact⟨⟨n,b,rfl,k.o,h,i,l.o⟩,j⟩
theorem EW(w:Pv)(v:Nat)(d:v<18446744073709551616)(f:oI w):
  Calls prog 171 #[.int .u64 v,.a 16] w λe w'=>(∃b:Ps,e= .returned (.string b)/\b.data.toList=jO 16 v)/\K_ w w':=by
 go_enter func171,ntmps171
 go_wp2_with fail
 refine (xN _ v d f).mono ?_;rintro e q ⟨⟨n,b,rfl,a,r,s,c⟩,h⟩;have t:b.size=n:=by have:=congrArg List.length a;rw[iK] at this;simpa using this
 have⟨i,j⟩:=aH a c;clear a c;obtain⟨m,k⟩:∃m:Nat,m+n=16:=⟨16-n,A7⟩;have x:(16:Int)-(n:Int)= (m:Int):=A7;have y:(⟨#[48]⟩:Ps).data.toList=[48]:=rfl;have l:(⟨#[48]⟩:Ps).size*m<=140737488355328:=by rw[show (⟨#[48]⟩:Ps).size=1 from rfl];omega
 have z:(m:Int)<=9223372036854775807:=A7;go_wp2_with fail
 refine (Tryz.strings_Repeat ⟨#[48]⟩ m _ A7 l).mono ?_;rintro e A ⟨rfl,p⟩;have B:(⟨(Lib.repeatL [48] m).toArray⟩:Ps).size<=16:=by show (Lib.repeatL [48] m).toArray.size<=16;rw[List.size_toArray,Lib.repeatL_length];simp;omega
 go_wp2
 go_ret
 refine⟨⟨_,rfl, ?_⟩,K_.trans h p⟩;rw[f_,i.o,<-k,Cx n v j.o m]
 congr 1
 have:=Lib.repeatL_replicate 48 1 m;simpa using this
def Ic(s:Ps):Prop:=200<s.size
theorem tF(w:Pv)(s:Ps):Calls prog 169 #[.string s] w λe w'=>Says e (Ic s)/\w'=w:=by
 by_cases h:(200:Int)<s.size
 .have b:decide ((200:Int)<s.size)=true:=by simpa using h
  go_enter func169,ntmps169
  go_wp2
  go_ret
  exact⟨Says.congr (p:=True) (Says.yes trivial) ⟨λ_=>by unfold Ic;omega,λ_=>trivial⟩,rfl⟩
 .have b:decide ((200:Int)<s.size)=false:=by simpa using h
  go_enter func169,ntmps169
  go_wp2
  go_ret
  exact⟨Says.congr (p:=False) (Says.no id) ⟨False.elim,λg=>by unfold Ic at g;omega⟩,rfl⟩
def CJ(l:List Ps):Prop:=∃i,i<l.length/\Ic (l.getD i ByteArray.empty)
theorem zK(w:Pv)(a:Pt)(v:Nat)(l:List Ps)(x:l.length<=maxLen)(y:Strs w a l):
  Calls prog 178 #[.slice a l.length v,.func (.func 169) #[] #[]] w λe w'=>(∃r,e= .returned (.a r)/\(0<=r↔CJ l))/\w'=w:=by
 unfold maxLen at x;go_enter func178,ntmps178
 go_wp2
 go_loop [8] (λi=>∃k:Nat,k<=l.length/\i= .a k/\∀j,j<k->¬Ic (l.getD j ByteArray.empty)) (λi=>l.length-(intOf i).toNat)
 case atStart=>exact⟨0,NS _,rfl,λj h=>aT h⟩
 case round=>
  obtain⟨k,C,rfl,m⟩:=hrel;have n:=Kz m;clear m;by_cases p:k<l.length
  .obtain⟨b,o,rfl,D,z⟩:=y k p;obtain⟨c,d⟩:=ai (l.getD k ByteArray.empty);rw[<-d] at z;have q:=Kz d;clear d;go_wp2_with fail
   refine (tF _ c).mono ?_;rintro e E ⟨f,rfl⟩;rcases f.cases with⟨rfl,s⟩|⟨rfl,t⟩
   .have A:=Kz s;clear s f;go_wp2
    go_ret
    exact⟨⟨k,rfl,⟨λ_=>⟨k,p,by rw[<-q.o];exact A.o⟩,λ_=>A7⟩⟩,rfl⟩
   .have B:=Kz t;clear t f;go_wp2
    go_round
    case rel=>
     refine⟨k+1,A7,C8,λj h=>?_⟩;by_cases e:j=k
     .subst e;rw[<-q.o];exact B.o
     .exact n.o j A7
    case measure=>simp[intOf];omega
  .go_wp2
   go_ret
   exact⟨⟨-1,rfl,⟨λF=>A7,λ⟨i,G,e⟩=>Pg e (n.o i A7)⟩⟩,rfl⟩
theorem uq(w:Pv)(a:Pt)(d:Nat)(l:List Ps)(i:l.length<=maxLen)(j:Strs w a l):
  Calls prog 153 #[.slice a l.length d,.func (.func 169) #[] #[]] w λe w'=>Says e (CJ l)/\w'=w:=by
 go_enter func153,ntmps153
 go_wp2_with fail
 refine (zK _ a d l i j).mono ?_;rintro e n ⟨⟨r,rfl,f⟩,rfl⟩;have h:=Kz f;clear f;by_cases c:0<=r
 .have k:decide (0<=r)=true:=by simpa using c
  go_wp2
  go_ret
  exact⟨Says.congr (p:=True) (Says.yes trivial) ⟨λ_=>h.o.1 c,λ_=>trivial⟩,rfl⟩
 .have k:decide (0<=r)=false:=by simpa using c
  go_wp2
  go_ret
  exact⟨Says.congr (p:=False) (Says.no id) ⟨False.elim,λm=>by have:=h.o.2 m;omega⟩,rfl⟩
theorem JJ(w:Pv)(a:Pt)(c:Nat)(l:List Ps)(h:l.length<=c)(t:l.length<=100)(i:(Lib.join (texts l) [44]).length<=140737488355328)(d:Strs w a l):
  Calls prog 170 #[.slice a l.length c,.string ⟨#[44]⟩] w λe w'=>(∃b:Ps,e= .returned (.string b)/\b.data.toList=Lib.join (texts l) [44])/\K_ w w':=by
 by_cases j:l.length=0
 .have k:l=[]:=Pj j;subst k;refine (Tryz.strings_Join_none a c ⟨#[44]⟩ w).mono ?_;rintro e w' ⟨rfl,rfl⟩;exact⟨⟨_,rfl,rfl⟩,K_.refl _⟩
 .obtain⟨b,o,rfl,m,_⟩:=d 0 A7;refine (Tryz.strings_Join b o c l ⟨#[44]⟩ w (λn x p=>?_) m A7 h i).mono ?_
  .obtain⟨f,q⟩:=NW.1 p;obtain⟨v,y,e,_,r⟩:=d n f;simp only[OE,Po,and_true] at e;obtain⟨rfl,rfl⟩:=e;rw[r];simp[List.getD,f,q]
  .rintro e w' ⟨rfl,s⟩;exact⟨⟨_,rfl,rfl⟩,s⟩
theorem Fb(w:Pv)(give:Ps)(a:Pt)(k:Nat)(l:List Ps)(F:give.size<=maxLen)(t:l.length<=maxLen)(x:Strs w a l)(G:l.length<=k)(H:oI w):
  Calls prog 118 #[.string give,.slice a l.length k] w λe w'=>e= .returned (.string (jl give l))/\K_ w w':=by
 have I:=t;unfold maxLen at F t;by_cases y:(30:Int)<give.size
 .have n:decide ((30:Int)<give.size)=true:=by simpa using y
  go_enter func118,ntmps118
  go_wp2
  go_ret
  exact⟨mf (kP (.inl A7)).symm,K_.refl _⟩
 .have n:decide ((30:Int)<give.size)=false:=by simpa using y
  by_cases z:(100:Int)<l.length
  .have p:decide ((100:Int)<l.length)=true:=by simpa using z
   go_enter func118,ntmps118
   go_wp2
   go_ret
   exact⟨mf (kP (.inr (.inl A7))).symm,K_.refl _⟩
  .have p:decide ((100:Int)<l.length)=false:=by simpa using z
   go_enter func118,ntmps118
   go_wp2_with fail
   refine (uq _ a k l I x).mono ?_;rintro e S ⟨b,rfl⟩;rcases b.cases with⟨rfl,f⟩|⟨rfl,h⟩
   .have i:=Kz f;clear f b n p;go_wp2
    go_ret
    obtain⟨j,d,J⟩:=i.o;exact⟨mf (kP (.inr (.inr ⟨j,d,J⟩))).symm,K_.refl _⟩
   .have q:Hid (qJ give l):=⟨A7,A7,λj d=>by
     apply Decidable.byContradiction;intro T;exact h ⟨j,d,by unfold Ic;omega⟩⟩
    clear h b n p;have K:(Lib.join (texts l) [44]).length<=100*201:=by
     have:=LQ (texts l) 200 (λU A=>by
      simp only[texts,Oq] at A;obtain⟨W,L,rfl⟩:=A;obtain⟨j,d,rfl⟩:=Oc L;have:=q.o.2.2 j d;simpa[List.getD,d] using this)
     rw[j_] at this;omega
    go_wp2_with fail
    refine (JJ _ a k l G A7 A7 x).mono ?_;rintro e X ⟨⟨m,rfl,r⟩,B⟩;have Y:m.size<=20100:=by have:=congrArg List.length r;simp at this;omega
    have C:Hid ((give++ ⟨#[40]⟩++m++ ⟨#[41]⟩).data.toList=jZ give.data.toList (texts l)):=by
     show _=_;rw[f_,f_,f_,r];simp[jZ]
    clear r K;have Z:(give++ ⟨#[40]⟩++m++ ⟨#[41]⟩:Ps).size<=30000:=by
     have M:(⟨#[40]⟩:Ps).size=1:=rfl;have N:(⟨#[41]⟩:Ps).size=1:=rfl;simp only[ByteArray.size_append,M,N];omega
    go_wp2_with fail
    generalize (give++ ⟨#[40]⟩++m++ ⟨#[41]⟩:Ps)=c at *;refine (tF _ c).mono ?_;rintro e w3 ⟨b,rfl⟩;rcases b.cases with⟨rfl,f⟩|⟨rfl,h⟩
    .have i:Hid (200<c.size):=f;clear f b;go_wp2_with fail
     refine (Lj _ c D5).mono ?_;rintro e w4 ⟨rfl,O⟩;have D:=K_.trans B O;have a0:=tQ c.data.toList;have E:Hid (jl give l= ⟨(35 :: jO 16 (sumOf c.data.toList).toNat).toArray⟩):=AL q.o C.o i.o;generalize sumOf c.data.toList=V at *;obtain⟨v,rfl⟩:∃v:Nat,V=v:=⟨V.toNat,A7⟩;rw[Int.toNat_natCast] at E;go_wp2_with fail
     refine (EW _ v A7 (H.kept D)).mono ?_;rintro e w5 ⟨⟨P,rfl,s⟩,Q⟩;have a1:P.size=16:=by have:=congrArg List.length s;rw[iK] at this;simpa using this
     have R:=Kz s;clear s;go_wp2
     go_ret
     exact⟨mf (by rw[E.o];apply Br;rw[f_,R.o];rfl),K_.trans D Q⟩
    .have i:Hid (¬200<c.size):=h;clear h b;go_wp2
     go_ret
     exact⟨mf (yG q.o C.o (by have:=i.o;omega)).symm,B⟩
