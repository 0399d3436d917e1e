import Derived.BigQuiet
import Derived.Test.YtppbfddlkfglgaaGreatDoorKFFmt
import Derived.Deep.RegionLaw
import Derived.Deep.AppendLies
import Derived.Laws.AppendOwnNone
set_option maxRecDepth 100000
set_option maxHeartbeats 25600000
namespace Go.Proofs.YtppbfddlkfglgaaGreatDoor
open Go.RowKit Go.Proofs.Tryz
structure Rd (w:QX)(rb:Nat)(a:QW)(cap:Nat)(bs:List UInt8)(p:Nat):Prop where
 row:aH w rb 82 2
 c0:w.cell? ⟨rb,0,none⟩=some (.slice a bs.length cap)
 c1:w.cell? ⟨rb,1,none⟩=some (.b (p:Int))
 bytes:∀i,i<bs.length->∃b o,a=some ⟨b,o,none⟩/\b≠rb/\b<w.heap.size/\w.cell? ⟨b,o+i,none⟩=some (.int .u8 ((bs.getD i 0).toNat:Int))
variable {bs:List UInt8}{cap p rb:Nat}{a:QW}{w:QX}
theorem Rd.drewN(h:Rd w rb a cap bs p)(k:Nat):Rd (w.drewN k) rb a cap bs p:=
 ⟨h.row.block rfl,h.c0,h.c1,h.bytes⟩
theorem OV(a:Nat)(h:a<1099511627776):bits .xor .i64 (a:Int) ((a:Int) / 64)= ((a ^^^ a / 64:Nat):Int)/\a ^^^ a / 64<1099511627776:=by
 have b:a ^^^ a / 64<2 ^ 40:=Nat.xor_lt_two_pow A7 A7;have d:((a:Int) / 64)= ((a / 64:Nat):Int):=A7;have c:(BitVec.ofInt 64 (a:Int)).toNat=a:=by
  rw[BitVec.ofInt_natCast,BitVec.toNat_ofNat];exact Nat.mod_eq_of_lt A7
 have e:(BitVec.ofInt 64 ((a / 64:Nat):Int)).toNat=a / 64:=by
  rw[BitVec.ofInt_natCast,BitVec.toNat_ofNat];exact Nat.mod_eq_of_lt A7
 refine⟨?_,A7⟩;rw[d];show IntKind.i64.wrap ((BitVec.ofInt 64 (a:Int) ^^^ BitVec.ofInt 64 ((a / 64:Nat):Int)).toNat:Int)=_;rw[BitVec.toNat_xor,c,e];obtain⟨z,f⟩:=aj (a ^^^ a / 64);rw[<-f] at b⊢;simp[IntKind.wrap,IntKind.bits,IntKind.signed];omega
def LK(w w':QX)(rb:Nat)(a:QW)(cap:Nat)(bs:List UInt8)(p n:Nat)(e:Ending):Prop:=
 ∃v:Nat,e=.returned (.b (v:Int))/\v<=n-1/\Rd w' rb a cap bs (p+1)/\Xj rb (rb+1) w w'
theorem qD(w:QX)(rb:Nat)(a:QW)(cap:Nat)(bs:List UInt8)(p n:Nat)(b:Rd w rb a cap bs p)(S:p<=1000000)(T:n<=100000)(U:bs.length<=2000):
  Calls prog 10 #[.h rb,.b (n:Int)] w λe w'=>LK w w' rb a cap bs p n e:=by
 have H:=b.c0;have V:=b.c1;have W:=b.row.lt;obtain⟨_,Y⟩:=b.row.row.at (i:=1) A7;have x:Rd (w.setCell ⟨rb,1,none⟩ (.b ((p:Int)+1))) rb a cap bs (p+1):=by
  refine⟨b.row.set _,by rw[Xk A7];exact H,by rw[bB b.row.row A7];rfl,λI J=>?_⟩;obtain⟨k,o,e,h,l,m⟩:=b.bytes I J;exact⟨k,o,e,h,by rw[size_setCell];exact l,by rw[PU _ _ _ _ λe=>h (congrArg Addr.block e).symm];exact m⟩
 have c:=Kz x;have i:Xj rb (rb+1) w (w.setCell ⟨rb,1,none⟩ (.b ((p:Int)+1))):=(Xj.refl _ _ _).setCell A9 A9 _;clear x;by_cases a0:(n:Int)<1
 .go_enter func10,ntmps10
  go_wp2
  go_ret
  exact⟨0,rfl,Py _,c.o,i⟩
 .by_cases z:bs.length=0
  .have K:((bs.length:Int) == 0)=true:=by simp[z]
   go_enter func10,ntmps10
   go_wp2
   go_ret
   exact⟨0,rfl,Py _,c.o,i⟩
  .have K:((bs.length:Int) == 0)=false:=by simpa using z
   by_cases hk:(p:Int)<bs.length
   .obtain⟨k,o,rfl,h,l,m⟩:=c.o.bytes p A7;obtain⟨y,A⟩:=aj (bs.getD p 0);rw[<-A] at m;have a1:=y.toNat_lt;clear A;go_enter func10,ntmps10
    go_wp2
    go_ret
    refine⟨y.toNat % n,?_,?_,c.o,i⟩
    .simp
    .have:=Nat.mod_lt y.toNat (A7:0<n);omega
   .obtain⟨d,q⟩:=aj (p % bs.length);obtain⟨f,r⟩:=aj ((p*7+3) % bs.length);obtain⟨j,s⟩:=aj (p / bs.length);have L:d<bs.length:=by rw[q];exact Nat.mod_lt _ A7
    have M:f<bs.length:=by rw[r];exact Nat.mod_lt _ A7
    have a2:j<=p:=by rw[s];exact Nat.div_le_self _ _
    have e1:(p:Int) % (bs.length:Int)= (d:Int):=by rw[q];omega
    have e2:((p:Int)*7+3) % (bs.length:Int)= (f:Int):=by rw[r];push_cast;rfl
    have e3:(p:Int) / (bs.length:Int)= (j:Int):=by rw[s];push_cast;rfl
    obtain⟨k,o,rfl,h,l,N⟩:=c.o.bytes d L;obtain⟨b',o',B,_,_,O⟩:=c.o.bytes f M;simp only[Ql,QS,and_true] at B;obtain⟨rfl,rfl⟩:=B;obtain⟨t,C⟩:∃y,y=bs.getD d 0:=⟨_,rfl⟩;obtain⟨v,D⟩:∃y,y=bs.getD f 0:=⟨_,rfl⟩;rw[<-C] at N;rw[<-D] at O;have a3:=t.toNat_lt;have a4:=v.toNat_lt;clear q r s C D;have i1:(d:Int)<(bs.length:Int):=A7;have i2:(f:Int)<(bs.length:Int):=A7;go_enter func10,ntmps10
    go_wp2
    go_quiet (fail)
    obtain⟨X,E⟩:∃X:Nat,X=t.toNat*131+v.toNat*1117+p*29+j*53:=⟨_,rfl⟩;have F:(t.toNat:Int)*131+(v.toNat:Int)*1117+(p:Int)*29+(j:Int)*53= (X:Int):=by rw[E];push_cast;rfl
    rw[F];have P:X<1099511627776:=A7;obtain⟨Q,R⟩:=OV X P;obtain⟨Z,G⟩:=aj (X ^^^ X / 64);rw[<-G] at Q R;clear G E F;go_wp2
    go_ret
    refine⟨Z % n,?_,?_,c.o.drewN nq,i.drewN nq⟩
    .simp
    .have:=Nat.mod_lt Z (A7:0<n);omega
def BytesAt(w:QX)(a:QW)(bs:List UInt8):Prop:=
 ∀i,i<bs.length->∃b o,a=some ⟨b,o,none⟩/\b<w.heap.size/\w.cell? ⟨b,o+i,none⟩=some (.int .u8 ((bs.getD i 0).toNat:Int))
theorem BytesAt.take(h:BytesAt w a bs)(n:Nat):BytesAt w a (bs.take n):=by
 intro i c;obtain⟨b,o,e,d,f⟩:=h i (by simp at c;omega);refine⟨b,o,e,d,?_⟩;rw[f];have j:i<n:=by simp at c;omega
 simp[List.getD_eq_getElem?_getD,j]
theorem Rd.made(cap:Nat)(h:BytesAt w a bs):
  Rd (w.alloc (.cells #[.slice a bs.length cap,.b 0] 82)) w.heap.size a cap bs 0:=by
 refine⟨aH.made w _ _,?_,?_,λi c=>?_⟩
 .rw[World.cell?_alloc_mark];rfl
 .rw[World.cell?_alloc_mark];rfl
 .obtain⟨d,o,e,b,f⟩:=h i c;exact⟨d,o,e,A7,Px b (ai w _).size,by rw[(ai w _).cell b];exact f⟩
def OC(w w':QX)(a:QW)(cap:Nat)(bs:List UInt8)(e:Ending):Prop:=
 ∃rb,e=.returned (.h rb)/\w.heap.size<=rb/\Rd w' rb a cap (bs.take 2000) 0/\K_ w w'
theorem Da(w:QX)(a:QW)(cap:Nat)(bs:List UInt8)(d:BytesAt w a bs)(f:bs.length<=cap)(h:bs.length<=100000000):
  Calls prog 8 #[.slice a bs.length cap] w λe w'=>OC w w' a cap bs e:=by
 by_cases i:(2000:Int)<bs.length
 .go_enter func8,ntmps8
  go_wp2
  go_ret
  have c:(bs.take 2000).length=2000:=D7;have b:=Rd.made cap (d.take 2000);rw[c] at b;exact⟨w.heap.size,rfl,Pw _,b,ai w _⟩
 .go_enter func8,ntmps8
  go_wp2
  go_ret
  have c:bs.take 2000=bs:=Qd A7;have b:=Rd.made cap d;exact⟨w.heap.size,rfl,Pw _,by rw[c];exact b,ai w _⟩
def Eg(w w':QX)(e:Ending):Prop:=
 ∃s:QV,e=.returned (.string s)/\s.size<=2/\K_ w w'
def lN(i:Nat):QV:=⟨#[UInt8.ofNat (97+i)]⟩
theorem GA{i j:Nat}(e:i<26)(f:j<26)(h:lN i=lN j):i=j:=by
 have b:UInt8.ofNat (97+i)=UInt8.ofNat (97+j):=by
  have:=congrArg (λx:QV=>x.data.toList) h;simpa[lN] using this
 have d:=congrArg UInt8.toNat b;simp only[UInt8.toNat_ofNat'] at d;omega
theorem Jq :∀q,q<26->((⟨#[97,98,99,100,101,102,103,104,105,106,107,108,109,110,111,112,113,114,115,116,117,118,119,120,121,122]⟩:QV).extract q 26).extract 0 1=lN q:=A8
theorem xJ(w:QX)(i:Nat)(C:i<=100000):
  Calls prog 68 #[.b (i:Int)] w λe w'=>∃s:QV,e=.returned (.string s)/\s.size<=2/\(i<26->s=lN i)/\K_ w w':=by
 obtain⟨q,n⟩:=aj (i % 26);obtain⟨d,p⟩:∃q,q=i / 26 % 3:=⟨_,rfl⟩;obtain⟨j,r⟩:=aj (i / 26);have D:(i:Int).tmod 26= (q:Int):=by rw[Int.tmod_eq_emod_of_nonneg A7];omega
 have E:(i:Int).tdiv 26= (j:Int):=by rw[Int.tdiv_eq_ediv_of_nonneg A7];omega
 have F:(j:Int).tmod 3= (d:Int):=by rw[Int.tmod_eq_emod_of_nonneg A7];omega
 have t:q<26:=A7;have G:d<3:=A7;have H:IntKind.i64.wrap (j:Int)= (j:Int):=E9;have v:Hid (i<26->d=0/\q=i):=λk=>A7
 clear n p r;obtain⟨b,I,x,l⟩:∃b:QV,(∀w:QX,(Instr.slice 9 (.string ⟨#[97,98,99,100,101,102,103,104,105,106,107,108,109,110,111,112,113,114,115,116,117,118,119,120,121,122]⟩) (some (.b (q:Int))) none none).run prog w=.ok (.string b) w)/\(1:Int)<=b.size/\b= (⟨#[97,98,99,100,101,102,103,104,105,106,107,108,109,110,111,112,113,114,115,116,117,118,119,120,121,122]⟩:QV).extract q 26:=
  ⟨_,λw=>run_slice_string_l w 9 ⟨#[97,98,99,100,101,102,103,104,105,106,107,108,109,110,111,112,113,114,115,116,117,118,119,120,121,122]⟩ underlying9 .i64 (q:Int) A7 (by show (q:Int)<=((26:Nat):Int);omega),by
   rw[ByteArray.size_extract];show (1:Int)<=((min 26 26-(q:Int).toNat:Nat):Int);omega,rfl⟩
 obtain⟨h,J,y,m⟩:∃h:QV,(∀w:QX,(Instr.slice 9 (.string b) none (some (.b 1)) none).run prog w=.ok (.string h) w)/\h.size=1/\h=b.extract 0 1:=
  ⟨_,λw=>run_slice_string_h w 9 b underlying9 .i64 1 A7 x,by
   rw[ByteArray.size_extract];show min 1 b.size-0=1;omega,rfl⟩
 have z:Hid (h=lN q):=by rw[m,l];exact Jq q t
 clear l m;go_enter func68,ntmps68
 go_wp2
 refine Qk.region C9 (λw'=>K_ w w') 11 (a_ w) λf=>?_;refine ae 0 f ?_;refine bZ 1 (.b (q:Int)) f ?_ ?_
 .intro u c;try dsimp only at c
  go_simp
  try with_reducible rfl
 try simp only[upP]
 refine bZ 2 (.string b) f ?_ ?_
 .intro u c;try dsimp only at c
  go_simp
  try with_reducible rfl
 try simp only[upP]
 refine bZ 3 (.string h) f ?_ ?_
 .intro u c;try dsimp only at c
  go_simp
  try with_reducible rfl
 try simp only[upP]
 refine ae 5 f ?_;refine bZ 6 (.b (j:Int)) f ?_ ?_
 .intro u c;try dsimp only at c
  go_simp
  try with_reducible rfl
 try simp only[upP]
 refine bZ 7 (.b (d:Int)) f ?_ ?_
 .intro u c;try dsimp only at c
  go_simp
  try with_reducible rfl
 try simp only[upP]
 refine aD 4 λK a=>?_;go_simp
 refine af a (λ_=>H8) ?_;clear a K;have A:d=0\/d=1\/d=2:=A7;obtain rfl|rfl|rfl:=A
 all_goals
  refine aD 8 λK a=>?_;go_simp
  refine af a (λ_=>H8) ?_;clear a K;refine aD 9 λK a=>?_;go_simp
  refine af a (λ_=>H8) ?_;clear a K;refine aD 10 λK a=>?_;go_simp
  refine af a (λ_=>H8) ?_;clear a K;refine au 11 λK a=>?_;go_simp
  refine af a (λk=>QK rfl k) ?_;clear a K;refine aF ?_;go_wp2
  go_ret
  exact⟨_,rfl,by rw[ByteArray.size_append,y];decide,λk=>(by
   obtain⟨L,B⟩:=v.o k
   first
    |(exfalso;omega)
    |(rw[z.o,B];exact ByteArray.ext (by simp[lN]))),(ai w _).drew⟩
theorem nJ(w:QX)(i:Nat)(a:i<=100000):
  Calls prog 68 #[.b (i:Int)] w λe w'=>Eg w w' e:=
 (xJ w i a).mono λ_ _ ⟨s,c,d,_,f⟩=>⟨s,c,d,f⟩
variable {w':QX}
theorem Rd.kept(h:Rd w rb a cap bs p)(k:K_ w w'):Rd w' rb a cap bs p:=by
 refine⟨h.row.kept k,by rw[k.cell h.row.lt];exact h.c0,by rw[k.cell h.row.lt];exact h.c1,λi d=>?_⟩;obtain⟨b,o,e,f,c,j⟩:=h.bytes i d;exact⟨b,o,e,f,Px c k.size,by rw[k.cell c];exact j⟩
def NR(w w':QX)(rb:Nat)(a:QW)(cap:Nat)(bs:List UInt8)(p t m:Nat)(e:Ending):Prop:=
 ∃(s:QV)(p':Nat),e=.returned (.string s)/\s.size<=m/\p<=p'/\p'<=p+t/\Rd w' rb a cap bs p'/\Xj rb (rb+1) w w'
theorem aM(w:QX)(rb:Nat)(a:QW)(cap:Nat)(bs:List UInt8)(p:Nat)(m:Int)(n:Nat)(b:m= (n:Int))(c:Rd w rb a cap bs p)(d:p<=1000000)(f:n<=100000)(h:bs.length<=2000):
  Calls prog 10 #[.h rb,.b m] w λe w'=>LK w w' rb a cap bs p n e:=by
 rw[b];exact qD w rb a cap bs p n c d f h
variable {lo:Nat}
theorem Xj.gJ{d:Nat}{a b c:QX}(h:Xj lo d a b)(k:K_ b c):Xj lo d a c:=h.trans (.ak k)
theorem MQ(w:QX)(rb:Nat)(a:QW)(cap:Nat)(bs:List UInt8)(p i n:Nat)(y:Rd w rb a cap bs p)(O:p<=900000)(J:i<=100000)(z:n<=100000)(A:bs.length<=2000):
  Calls prog 137 #[.h rb,.b (i:Int),.b (n:Int)] w λe w'=>NR w w' rb a cap bs p 2 4 e:=by
 go_enter func137,ntmps137
 go_wp2_with fail
 refine (aM _ rb a cap bs p _ 12 rfl y A7 A7 A).mono ?_;rintro e w1 ⟨v,rfl,l,B,C⟩;have⟨D,E⟩:=aJ B C;clear B C y;by_cases k:v=0
 .have K:((v:Int) == 0)=true:=by simp[k]
  clear l;go_wp2
  go_ret
  exact⟨_,p+1,rfl,A8,A7,A7,D.o,E.o⟩
 .have K:((v:Int) == 0)=false:=by simpa using k
  have F:∀m:Nat,m<=100000->Calls prog 10 #[.h rb,.b (m:Int)] w1 λe w'=>∃q:Nat,e=.returned (.b (q:Int))/\q<=100000/\Rd w' rb a cap bs (p+2)/\Xj rb (rb+1) w w':=by
   intro m L;refine (qD _ rb a cap bs (p+1) m D.o A7 L A).mono ?_;rintro e r ⟨q,rfl,f,b,c⟩;exact⟨q,rfl,A7,b,E.o.trans c⟩
  have t:=Kz F;clear F;by_cases x:v=1
  .have M:((v:Int) == 1)=true:=by simp[x]
   clear l k x;go_wp2_with fail
   refine (t.o n z).mono ?_;rintro e r ⟨q,rfl,f,b,c⟩;have⟨h,j⟩:=aJ b c;clear b c;go_wp2_with fail
   refine (nJ _ q f).mono ?_;rintro e G ⟨s,rfl,H,d⟩;go_wp2
   go_ret
   exact⟨s,p+2,rfl,A7,A7,A7,h.o.kept d,j.o.gJ d⟩
  .have M:((v:Int) == 1)=false:=D7;clear l k x;by_cases I:i=0
   .have N:((i:Int) == 0)=true:=by simp[I]
    go_wp2_with fail
    refine (t.o n z).mono ?_;rintro e r ⟨q,rfl,f,b,c⟩;have⟨h,j⟩:=aJ b c;clear b c;go_wp2_with fail
    refine (nJ _ q f).mono ?_;rintro e G ⟨s,rfl,H,d⟩;go_wp2
    go_ret
    exact⟨s,p+2,rfl,A7,A7,A7,h.o.kept d,j.o.gJ d⟩
   .have N:((i:Int) == 0)=false:=by simpa using I
    go_wp2_with fail
    refine (t.o i J).mono ?_;rintro e r ⟨q,rfl,f,b,c⟩;have⟨h,j⟩:=aJ b c;clear b c;go_wp2_with fail
    refine (nJ _ q f).mono ?_;rintro e G ⟨s,rfl,H,d⟩;go_wp2
    go_ret
    exact⟨s,p+2,rfl,A7,A7,A7,h.o.kept d,j.o.gJ d⟩
theorem Er(w:QX)(s:QV)(n:Nat)(x:n<=1000)(z:s.size<=100):
  Calls prog 110 #[.string s,.b (n:Int)] w λe w'=>(∃t:QV,e=.returned (.string t)/\t.size<=n*s.size)/\w'=w:=by
 obtain⟨B,c⟩:=aj (n*s.size);have F:B<=100000:=by rw[c];exact Pz (Nat.mul_le_mul x z) A7
 rw[<-c];have l:=Kz c;clear c;go_enter func110,ntmps110
 go_wp2
 go_loop [0,1,5] (λA y C=>∃(a o:QV)(m:Nat),A=.string a/\y=.b (m:Int)/\C=.string o/\m<=n/\o.size+m*a.size<=B/\(m=0\/a.size<=B)) λ_ y _=>(intOf y).toNat
 case atStart=>
  refine⟨s,_,n,rfl,rfl,rfl,Pw _,?_,?_⟩
  .have:=l.o;show 0+n*s.size<=B;omega
  .by_cases f:n=0
   .exact .inl f
   .refine .inr ?_;rw[l.o];exact Nat.le_mul_of_pos_left _ A7
 case round=>
  obtain⟨a,o,m,rfl,rfl,rfl,G,h,i⟩:=hrel;by_cases p:m=0
  .have D:¬(0:Int)<(m:Int):=A7;have r:o.size<=B:=A7;clear h i;go_wp2
   go_ret
   exact⟨⟨o,rfl,r⟩,rfl⟩
  .have D:(0:Int)<(m:Int):=A7;have H:a.size<=B:=A7;have r:o.size<=B:=A7;obtain⟨q,v⟩:=aj (m / 2);have I:(m:Int) / 2= (q:Int):=A7;have J:q<m:=A7;have d:q=0\/(a++a).size<=B:=by
    rw[ByteArray.size_append];by_cases f:q=0
    .exact .inl f
    .have:2*a.size<=m*a.size:=Nat.mul_le_mul_right _ A7;omega
   by_cases K:m % 2=1
   .have E:(m:Int) % 2=1:=A7;have b:(o++a).size+q*(a++a).size<=B:=by
     rw[ByteArray.size_append,ByteArray.size_append];have:m*a.size=q*(a.size+a.size)+a.size:=by
      rw[show m=q+q+1 by omega,Nat.add_mul,Nat.add_mul,Nat.mul_add];omega
     omega
    have⟨j,k⟩:=aJ b d;clear b d h i v p;go_wp2
    go_round
    case rel=>exact⟨a++a,o++a,q,rfl,C8,rfl,A7,j.o,k.o⟩
    case measure=>simp[intOf];omega
   .have E:(m:Int) % 2=0:=A7;have b:o.size+q*(a++a).size<=B:=by
     rw[ByteArray.size_append];have:m*a.size=q*(a.size+a.size):=by
      rw[show m=q+q by omega,Nat.add_mul,Nat.mul_add]
     omega
    have⟨j,k⟩:=aJ b d;clear b d h i v p;go_wp2
    go_round
    case rel=>exact⟨a++a,o,q,rfl,C8,rfl,A7,j.o,k.o⟩
    case measure=>simp[intOf];omega
def Oi(w w':QX)(m:Nat)(e:Ending):Prop:=∃s:QV,e=.returned (.string s)/\s.size<=m/\K_ w w'
theorem uO(w:QX)(n:Nat)(b:n<10):Calls prog 138 #[.b (n:Int)] w λe w'=>Oi w w' 1 e:=by
 have c:(n:Int)<10:=A7;have d:(convert 22 9 (.c w.heap.size 1 1)).run prog (w.alloc (.cells #[.int .u8 (48+(n:Int))] 5))=.ok (.string (strOfNums [48+(n:Int)])) (w.alloc (.cells #[.int .u8 (48+(n:Int))] 5)):=
  run_convert_bytes_arg (P:=prog) _ 22 5 underlying22 underlying5 w.heap.size 0 1 1 [48+(n:Int)] rfl (λi f=>by
   obtain rfl:i=0:=A7;rw[World.cell?_alloc_mark];rfl) 9 underlying9
 go_enter func138,ntmps138
 go_wp2
 go_ret
 exact⟨_,rfl,by rw[strOfNums_size];exact Pw 1,ai w _⟩
theorem LA(w:QX)(rb:Nat)(a:QW)(cap:Nat)(bs:List UInt8)(p:Nat)(C:Rd w rb a cap bs p)(Q:p<=900000)(D:bs.length<=2000):
  Calls prog 139 #[.h rb] w λe w'=>NR w w' rb a cap bs p 2 31 e:=by
 go_enter func139,ntmps139
 go_wp2_with fail
 refine (aM _ rb a cap bs p _ 10 rfl C A7 A7 D).mono ?_;rintro e w1 ⟨v,rfl,d,E,F⟩;have⟨r,s⟩:=aJ E F;clear E F C;have G:∀(m:Int)(n:Nat),m= (n:Int)->n<=100000->Calls prog 10 #[.h rb,.b m] w1 λe w'=>∃q:Nat,e=.returned (.b (q:Int))/\q<=n-1/\Rd w' rb a cap bs (p+2)/\Xj rb (rb+1) w w':=by
  intro m n t J;refine (aM _ rb a cap bs (p+1) m n t r.o A7 J D).mono ?_;rintro e x ⟨q,rfl,y,b,c⟩;exact⟨q,rfl,A7,b,s.o.trans c⟩
 have z:=Kz G;clear G;by_cases f:v=0
 .have K:((v:Int) == 0)=true:=by simp[f]
  clear d;go_wp2
  go_ret
  exact⟨_,p+1,rfl,A8,A7,A7,r.o,s.o⟩
 have K:((v:Int) == 0)=false:=by simpa using f
 by_cases k:v=1
 .have L:((v:Int) == 1)=true:=by simp[k]
  clear d;go_wp2
  go_ret
  exact⟨_,p+1,rfl,A8,A7,A7,r.o,s.o⟩
 have L:((v:Int) == 1)=false:=D7;by_cases l:v=3
 .have M:((v:Int) == 3)=true:=by simp[l]
  clear d f k l;go_wp2_with fail
  refine (z.o _ 6 rfl A7).mono ?_;rintro e x ⟨q,rfl,y,b,c⟩;have⟨h,i⟩:=aJ b c;clear b c;go_wp2_with fail
  refine (nJ _ q A7).mono ?_;rintro e H ⟨A,rfl,N,j⟩;go_wp2
  go_ret
  exact⟨_,p+2,rfl,by rw[ByteArray.size_append];show 6+A.size<=31;omega,A7,A7,h.o.kept j,i.o.gJ j⟩
 have M:((v:Int) == 3)=false:=D7;by_cases B:v=2
 .have O:((v:Int) == 2)=true:=by simp[B]
  clear d f k B l;go_wp2_with fail
  refine (z.o _ 2 rfl A7).mono ?_;rintro e x ⟨q,rfl,y,b,c⟩;have⟨h,i⟩:=aJ b c;clear b c;obtain⟨m,t⟩:∃m:Nat,m=30-q:=⟨_,rfl⟩;have R:30-(q:Int)= (m:Int):=A7;have S:m<=30:=A7;clear t;go_wp2_with fail
  refine (Er _ ⟨#[103]⟩ m A7 A8).mono ?_;rintro e H ⟨⟨P,rfl,I⟩,rfl⟩;have T:P.size<=30:=by
   have:(⟨#[103]⟩:QV).size=1:=rfl;rw[this] at I;omega
  clear I;go_wp2
  go_ret
  exact⟨_,p+2,rfl,A7,A7,A7,h.o,i.o⟩
 have O:((v:Int) == 2)=false:=D7;clear d f k B l;go_wp2_with fail
 refine (z.o _ 3 rfl A7).mono ?_;rintro e x ⟨q,rfl,y,b,c⟩;have⟨h,i⟩:=aJ b c;clear b c;go_wp2_with fail
 refine (uO _ q A7).mono ?_;rintro e H ⟨A,rfl,N,j⟩;go_wp2
 go_ret
 exact⟨_,p+2,rfl,by rw[ByteArray.size_append];show 1+A.size<=31;omega,A7,A7,h.o.kept j,i.o.gJ j⟩
theorem Tryz.gV :(prog.info? 9).map (λi=>(i.zero,i.size,i.bytes))=some (some (.string ByteArray.empty),1,16):=C9
theorem Tryz.qZ :(prog.info? 187).map (λi=>(i.zero,i.size,i.bytes))=some (some (.agg #[.string ByteArray.empty,.b 0]),2,24):=C9
theorem Tryz.lu :(prog.info? 146).map (λi=>(i.zero,i.size,i.bytes))=some (some (.agg #[J6,.b 0,J6,.b 0,.b 0,.bool false,.bool false,.string ByteArray.empty]),8,96):=C9
theorem Tryz.jl :(prog.info? 62).map (·.size)=some 2:=C9
variable {size:Nat}
theorem aV{P:Program}{e:TypeId}{z:QY}{c:Nat}(h:(P.info? e).map (λi=>(i.zero,i.size,i.bytes))=some (some z,size,c)):∃i,P.info? e=some i/\i.zero=some z/\i.size=size/\i.bytes=c:=by
 obtain⟨i,f,a⟩:=Option.map_eq_some_iff.1 h;simp only[Prod.mk.injEq] at a;exact⟨i,f,a.1,a.2.1,a.2.2⟩
theorem yw(l:List QV):∀u∈l.map Value.string,u.oneCell'=true:=by
 intro u a;obtain⟨x,_,rfl⟩:=PX.1 a
 rfl
variable {n:Nat}{t:TypeId}{v:QY}
theorem dD{base:Nat}{l:List QV}(h:w.ownsRow base t 1 v n (l.map Value.string)):∃a cap,v=.slice a l.length cap/\l.length<=cap/\eY w t a l:=by
 have c:n=l.length:=by have:=h.1;simp at this;omega
 subst c;rcases h.2 with⟨rfl,b⟩|⟨g,cap,d,rfl,k,e,f,_,_,_⟩
 .exact⟨none,0,by rw[b],A7,.inl (QO b)⟩
 .refine⟨_,cap,rfl,f,.inr ⟨g,d,_,rfl,e,λi j=>?_⟩⟩;have:=h.cells (g:=g) rfl i (.string (l.getD i ByteArray.empty)) (by simp[List.getD,j]);rw[Qo,Qb] at this;exact this
def bv(l:List bQ):List QY:=(l.map bQ.cells).flatten
theorem jq(l:List bQ):(bv l).length=l.length*2:=by
 induction l with
 |nil=>rfl
 |cons c r ih=>simp only[bv,List.map_cons,List.flatten_cons,Qi,Qn] at ih⊢;rw[ih];simp[bQ.cells];omega
theorem v_(l:List bQ)(c:bQ):bv (l++[c])=bv l++c.cells:=by simp[bv]
theorem xO(l:List bQ):∀u∈bv l,u.oneCell'=true:=by
 intro u a;simp only[bv,List.mem_flatten,PX] at a;obtain⟨_,⟨c,_,rfl⟩,a⟩:=a;simp only[bQ.cells,Qr,Qs,or_false] at a;rcases a with rfl|rfl<;>rfl
theorem lL :∀(l:List bQ)(i j:Nat),i<l.length->j<2->(bv l)[i*2+j]? = ((l.getD i bQ.zero).cells)[j]?
 |[],_,_,h,_=>aS h
 |c :: r,0,j,_,hj=>by
  have e:bv (c :: r)=c.cells++bv r:=rfl;rw[e,Nat.zero_mul,Qb,Qx (by simpa[bQ.cells] using hj)]
  rfl
 |c :: r,i+1,j,h,hj=>by
  have e:bv (c :: r)=c.cells++bv r:=rfl;have b:c.cells.length=2:=rfl;rw[e,Qy (by rw[b];omega),b,show (i+1)*2+j-2=i*2+j by omega,lL r i j (by simpa using h) hj]
  rfl
theorem mD{base:Nat}{l:List bQ}(h:w.ownsRow base t 2 v n (bv l)):∃a cap,v=.slice a l.length cap/\qi w t a l:=by
 have d:n=l.length:=by have:=h.1;rw[jq] at this;omega
 subst d;rcases h.2 with⟨rfl,b⟩|⟨g,cap,e,rfl,p,f,q,_,_,_⟩
 .exact⟨none,0,by rw[b],.inl (QO b)⟩
 .refine⟨_,cap,rfl,.inr ⟨g,e,_,rfl,f,λi k j u c=>?_⟩⟩;have m:j<2:=by have:=(PG.1 c).1;simpa[bQ.cells] using this
  have:=h.cells (g:=g) rfl (i*2+j) u (by rw[lL l i j k m];exact c);rw[Qo,Qb] at this;exact this
theorem jQ(s:Xq)(aa:QW)(ca:Nat)(ac:QW)(cc:Nat):∀u∈s.cells aa ca ac cc,u.oneCell'=true:=by
 intro u a;have:=Xq.one s aa ca ac cc;rw[Array.all_eq_true_iff_forall_mem] at this;exact this u (by simpa using a)
theorem Xj.sameKind(h:Xj rb (rb+1) w w')(d:Rd w rb a cap bs p):aB 82 w w':=by
 intro c i u j e b;obtain⟨k,f,_⟩:=d.row;have l:c≠rb:=by
  rintro rfl;rw[f] at b;simp only[Ql,Obj.cells.injEq] at b;exact e b.2.1.symm
 rw[h.block c (aP b) A7];exact b
variable {o:Nat}
theorem Xj.cell{a:Nat}(h:Xj lo a w w'){b:Nat}(d:b<w.heap.size)(e:b<lo\/a<=b):w'.cell? ⟨b,o,none⟩=w.cell? ⟨b,o,none⟩:=PO (w:=w) (h.block b d e)
theorem aH.but{a b:Nat}(h:aH w b t n)(k:Xj lo a w w')(d:b<lo\/a<=b):aH w' b t n:=h.block (k.block b h.lt d)
variable {x:Int}
theorem oM(h: -1000<=x/\x<=1000):In64 x:=by unfold In64;omega
def bQ.Tiny(c:bQ):Prop:=c.text.size<=300/\ -1000<=c.goto/\c.goto<=1000
structure Xq.TinyN (m:Nat)(s:Xq):Prop where
 asks:s.asks.length<=m
 fA:∀x∈s.asks,x.size<=300
 on: -1000<=s.on/\s.on<=1000
 cases:s.cases.length<=m
 dK:∀c∈s.cases,c.Tiny
 els:In64 s.els
 fall: -1000<=s.fall/\s.fall<=1000
 give:s.give.size<=300
variable {m:Nat}{s:Xq}
theorem Xq.TinyN.fits(h:s.TinyN m)(d:m<=1000):s.Fits:=by
 have:=h.asks;have:=h.cases;have:=h.on;have:=h.fall;have:=h.give;refine⟨?_,λx b=>?_,?_,?_,λc a=>⟨?_,?_⟩,?_,?_,?_⟩
 all_goals first|exact h.els|(unfold maxLen;omega)|(unfold In64;omega)|skip
 .have:=h.fA x b;unfold maxLen;omega
 .have:=(h.dK c a).1;unfold maxLen;omega
 .have:=(h.dK c a).2;unfold In64;omega
abbrev Xq.Tiny (s:Xq):Prop:=Xq.TinyN 20 s
theorem Xq.TinyN.mono(h:s.TinyN m)(b:m<=n):s.TinyN n:=⟨Pz h.asks b,h.fA,h.on,Pz h.cases b,h.dK,h.els,h.fall,h.give⟩
structure dJ (w:QX)(sb:Nat)(va vc:QY)(s:Xq):Prop where
 row:aH w sb 146 8
 c0:w.cell? ⟨sb,0,none⟩=some va
 c1:w.cell? ⟨sb,1,none⟩=some (.b s.on)
 c2:w.cell? ⟨sb,2,none⟩=some vc
 c3:w.cell? ⟨sb,3,none⟩=some (.b s.els)
 c4:w.cell? ⟨sb,4,none⟩=some (.b s.fall)
 c5:w.cell? ⟨sb,5,none⟩=some (.bool s.fin)
 c6:w.cell? ⟨sb,6,none⟩=some (.bool s.bad)
 c7:w.cell? ⟨sb,7,none⟩=some (.string s.give)
variable {sb:Nat}{va vc:QY}
theorem dJ.block(h:dJ w sb va vc s)(k:w'.heap[sb]? =w.heap[sb]?):dJ w' sb va vc s:=by
 have b:∀o,w'.cell? ⟨sb,o,none⟩=w.cell? ⟨sb,o,none⟩:=λo=>PO (w:=w) k
 exact⟨h.row.block k,(b _).trans h.c0,(b _).trans h.c1,(b _).trans h.c2,(b _).trans h.c3,(b _).trans h.c4,(b _).trans h.c5,(b _).trans h.c6,(b _).trans h.c7⟩
theorem dJ.kept(h:dJ w sb va vc s)(k:K_ w w'):dJ w' sb va vc s:=h.block (k.block sb h.row.lt)
theorem dJ.cell(h:dJ w sb va vc s)(b:o<8):(∃v,w.cell? ⟨sb,o,none⟩=some v)/\w.frozen? ⟨sb,o,none⟩=false:=h.row.row.at b
theorem dJ.made(w:QX)(els fall:Int):dJ (w.alloc (.cells #[J6,.b 0,J6,.b els,.b fall,.bool false,.bool false,.string ⟨#[]⟩] 146)) w.heap.size J6 J6 ⟨[],0,[],els,fall,false,false,⟨#[]⟩⟩:=by
 have d:=X_ w #[J6,.b 0,J6,.b els,.b fall,.bool false,.bool false,.string ⟨#[]⟩] 146;have a:∀j v,(#[J6,.b 0,J6,.b els,.b fall,.bool false,.bool false,.string ⟨#[]⟩]:Array QY).toList[j]? =some v->(w.alloc (.cells #[J6,.b 0,J6,.b els,.b fall,.bool false,.bool false,.string ⟨#[]⟩] 146)).cell? ⟨w.heap.size,j,none⟩=some v:=λj v e=>by
  have:=d j v e;rw[Qb] at this;exact this
 exact⟨aH.made w _ _,a 0 _ rfl,a 1 _ rfl,a 2 _ rfl,a 3 _ rfl,a 4 _ rfl,a 5 _ rfl,a 6 _ rfl,a 7 _ rfl⟩
theorem dJ.on(h:dJ w sb va vc s)(x:Int):dJ (w.setCell ⟨sb,1,none⟩ (.b x)) sb va vc {s with on:=x}:=
 ⟨h.row.set _,(Xk A7 _).trans h.c0,bB h.row.row A7 _,(Xk A7 _).trans h.c2,(Xk A7 _).trans h.c3,(Xk A7 _).trans h.c4,(Xk A7 _).trans h.c5,(Xk A7 _).trans h.c6,(Xk A7 _).trans h.c7⟩
theorem dJ.els(h:dJ w sb va vc s)(x:Int):dJ (w.setCell ⟨sb,3,none⟩ (.b x)) sb va vc {s with els:=x}:=
 ⟨h.row.set _,(Xk A7 _).trans h.c0,(Xk A7 _).trans h.c1,(Xk A7 _).trans h.c2,bB h.row.row A7 _,(Xk A7 _).trans h.c4,(Xk A7 _).trans h.c5,(Xk A7 _).trans h.c6,(Xk A7 _).trans h.c7⟩
theorem dJ.fall(h:dJ w sb va vc s)(x:Int):dJ (w.setCell ⟨sb,4,none⟩ (.b x)) sb va vc {s with fall:=x}:=
 ⟨h.row.set _,(Xk A7 _).trans h.c0,(Xk A7 _).trans h.c1,(Xk A7 _).trans h.c2,(Xk A7 _).trans h.c3,bB h.row.row A7 _,(Xk A7 _).trans h.c5,(Xk A7 _).trans h.c6,(Xk A7 _).trans h.c7⟩
theorem dJ.fin(h:dJ w sb va vc s)(x:Bool):dJ (w.setCell ⟨sb,5,none⟩ (.bool x)) sb va vc {s with fin:=x}:=
 ⟨h.row.set _,(Xk A7 _).trans h.c0,(Xk A7 _).trans h.c1,(Xk A7 _).trans h.c2,(Xk A7 _).trans h.c3,(Xk A7 _).trans h.c4,bB h.row.row A7 _,(Xk A7 _).trans h.c6,(Xk A7 _).trans h.c7⟩
theorem dJ.bad(h:dJ w sb va vc s)(x:Bool):dJ (w.setCell ⟨sb,6,none⟩ (.bool x)) sb va vc {s with bad:=x}:=
 ⟨h.row.set _,(Xk A7 _).trans h.c0,(Xk A7 _).trans h.c1,(Xk A7 _).trans h.c2,(Xk A7 _).trans h.c3,(Xk A7 _).trans h.c4,(Xk A7 _).trans h.c5,bB h.row.row A7 _,(Xk A7 _).trans h.c7⟩
theorem dJ.give(h:dJ w sb va vc s)(x:QV):dJ (w.setCell ⟨sb,7,none⟩ (.string x)) sb va vc {s with give:=x}:=
 ⟨h.row.set _,(Xk A7 _).trans h.c0,(Xk A7 _).trans h.c1,(Xk A7 _).trans h.c2,(Xk A7 _).trans h.c3,(Xk A7 _).trans h.c4,(Xk A7 _).trans h.c5,(Xk A7 _).trans h.c6,bB h.row.row A7 _⟩
theorem dJ.asks(h:dJ w sb va vc s)(v:QY)(l:List QV):dJ (w.setCell ⟨sb,0,none⟩ v) sb v vc {s with asks:=l}:=
 ⟨h.row.set _,bB h.row.row A7 _,(Xk A7 _).trans h.c1,(Xk A7 _).trans h.c2,(Xk A7 _).trans h.c3,(Xk A7 _).trans h.c4,(Xk A7 _).trans h.c5,(Xk A7 _).trans h.c6,(Xk A7 _).trans h.c7⟩
theorem dJ.cases(h:dJ w sb va vc s)(v:QY)(l:List bQ):dJ (w.setCell ⟨sb,2,none⟩ v) sb va v {s with cases:=l}:=
 ⟨h.row.set _,(Xk A7 _).trans h.c0,(Xk A7 _).trans h.c1,bB h.row.row A7 _,(Xk A7 _).trans h.c3,(Xk A7 _).trans h.c4,(Xk A7 _).trans h.c5,(Xk A7 _).trans h.c6,(Xk A7 _).trans h.c7⟩
theorem dJ.same(h:dJ w sb va vc s)(k:aB t w w')(c:146≠t):dJ w' sb va vc s:=by
 obtain⟨d,b,_⟩:=h.row;exact h.block ((k sb d _ _ c b).trans b.symm)
structure gM (m:Nat)(W wr:QX)(rb sb:Nat)(a:QW)(cap:Nat)(bs:List UInt8)(p:Nat)(va vc:QY)(s:Xq):Prop where
 rd:Rd wr rb a cap bs p
 rd0:∃p0,Rd W rb a cap bs p0
 sbl:W.heap.size<=sb
 kb:Xj rb (rb+1) W wr
 box:dJ wr sb va vc s
 asks:wr.ownsRow W.heap.size 9 1 va s.asks.length (s.asks.map Value.string)
 cases:wr.ownsRow W.heap.size 187 2 vc s.cases.length (bv s.cases)
 tiny:s.TinyN m
variable {mN:Nat}{W wr:QX}
theorem gM.rbl(h:gM mN W wr rb sb a cap bs p va vc s):rb<W.heap.size:=let ⟨_,h0⟩:=h.rd0;h0.row.lt
variable {p':Nat}
theorem gM.drawn(h:gM mN W wr rb sb a cap bs p va vc s)(d:Rd w' rb a cap bs p')(k:Xj rb (rb+1) wr w'):gM mN W w' rb sb a cap bs p' va vc s:=by
 have c:=k.sameKind h.rd;have:=h.rbl;have:=h.sbl;exact⟨d,h.rd0,h.sbl,h.kb.trans k,h.box.block (k.block sb h.box.row.lt A7),aY h.asks c A8,aY h.cases c A8,h.tiny⟩
theorem gM.kept(h:gM mN W wr rb sb a cap bs p va vc s)(k:K_ wr w'):gM mN W w' rb sb a cap bs p va vc s:=h.drawn (h.rd.kept k) (.ak k)
variable {p0:Nat}
theorem Rd.below(h:Rd w rb a cap bs p)(i:Rd W rb a cap bs p0)(k:Below W.heap.size w w')(_hz:W.heap.size<=w.heap.size):Rd w' rb a cap bs p:=by
 have c:∀b o,b<W.heap.size->w'.cell? ⟨b,o,none⟩=w.cell? ⟨b,o,none⟩:=λb o d=>PO (w:=w) (k.block b d)
 have e:=i.row.lt;have r:=k.size;refine⟨h.row.block (k.block _ e),(c _ _ e).trans h.c0,(c _ _ e).trans h.c1,λj l=>?_⟩;obtain⟨b,o,m,n,_,q⟩:=h.bytes j l;obtain⟨s,t,f,_,d,_⟩:=i.bytes j l;rw[m] at f;simp only[Ql,QS,and_true] at f;obtain⟨rfl,rfl⟩:=f;exact⟨b,o,m,n,A7,by rw[c _ _ d];exact q⟩
theorem gM.field{b:Xq}(h:gM mN W wr rb sb a cap bs p va vc s)(e:dJ (wr.setCell ⟨sb,o,none⟩ v) sb va vc b)(f:b.asks=s.asks)(i:b.cases=s.cases)(j:b.TinyN mN):gM mN W (wr.setCell ⟨sb,o,none⟩ v) rb sb a cap bs p va vc b:=by
 have c:=h.box.row.same (o:=o) v;have d:Below W.heap.size wr (wr.setCell ⟨sb,o,none⟩ v):=(Below.refl _ _).setCell h.sbl v;obtain⟨l,k⟩:=h.rd0;exact⟨h.rd.below k d h.kb.size,h.rd0,h.sbl,h.kb.below d,e,by rw[f];exact aY h.asks c A8,by rw[i];exact aY h.cases c A8,j⟩
theorem gM.on(h:gM mN W wr rb sb a cap bs p va vc s)(c: -1000<=x/\x<=1000):gM mN W (wr.setCell ⟨sb,1,none⟩ (.b x)) rb sb a cap bs p va vc {s with on:=x}:=
 h.field (h.box.on x) rfl rfl ⟨h.tiny.asks,h.tiny.fA,c,h.tiny.cases,h.tiny.dK,h.tiny.els,h.tiny.fall,h.tiny.give⟩
theorem gM.els(h:gM mN W wr rb sb a cap bs p va vc s)(c: -1000<=x/\x<=1000):gM mN W (wr.setCell ⟨sb,3,none⟩ (.b x)) rb sb a cap bs p va vc {s with els:=x}:=
 h.field (h.box.els x) rfl rfl ⟨h.tiny.asks,h.tiny.fA,h.tiny.on,h.tiny.cases,h.tiny.dK,oM c,h.tiny.fall,h.tiny.give⟩
theorem gM.fall(h:gM mN W wr rb sb a cap bs p va vc s)(c: -1000<=x/\x<=1000):gM mN W (wr.setCell ⟨sb,4,none⟩ (.b x)) rb sb a cap bs p va vc {s with fall:=x}:=
 h.field (h.box.fall x) rfl rfl ⟨h.tiny.asks,h.tiny.fA,h.tiny.on,h.tiny.cases,h.tiny.dK,h.tiny.els,c,h.tiny.give⟩
variable {w1 w2:QX}
theorem gM.vw(h:gM mN W wr rb sb a cap bs p va vc s)(c:K_ wr w1)(d:w1.grownBy w2 va.ownBlock):dJ w2 sb va vc s:=
 (h.kept c).box.same (aB.aI (h.kept c).asks d) A8
theorem gM.CV(h:gM mN W wr rb sb a cap bs p va vc s)(c:K_ wr w1)(d:w1.grownBy w2 vc.ownBlock):dJ w2 sb va vc s:=
 (h.kept c).box.same (aB.aI (h.kept c).cases d) A8
variable {v':QY}
theorem gM.qK{x:QV}(h:gM mN W wr rb sb a cap bs p va vc s)(k:K_ wr w1)(l:w2.ownsRow W.heap.size 9 1 v' (s.asks.length+1) (s.asks.map Value.string++[.string x]))(e:w1.grownBy w2 va.ownBlock)(m:s.asks.length+1<=mN)(n:x.size<=300):gM mN W (w2.setCell ⟨sb,0,none⟩ v') rb sb a cap bs p v' vc {s with asks:=s.asks++[x]}:=by
 have b:=h.kept k;have c:aB 9 w1 w2:=aB.aI b.asks e;have f:=b.box.same c A8;have i:=f.row.same (o:=0) v';have j:Below W.heap.size w1 (w2.setCell ⟨sb,0,none⟩ v'):=((Below.refl _ _).grown e b.kb.size λq c=>(b.asks.lt q c).1).setCell h.sbl v';obtain⟨t,r⟩:=h.rd0;refine⟨b.rd.below r j b.kb.size,h.rd0,h.sbl,b.kb.below j,f.asks v' _,?_,aY (aY b.cases c A8) i A8,?_⟩
 .have:=aY l i A8;simpa using this
 .refine⟨by simpa using m,λy d=>?_,h.tiny.on,h.tiny.cases,h.tiny.dK,h.tiny.els,h.tiny.fall,h.tiny.give⟩;simp only[PK,PI] at d;rcases d with d|rfl
  .exact h.tiny.fA y d
  .exact n
theorem gM.uj{x:bQ}(h:gM mN W wr rb sb a cap bs p va vc s)(k:K_ wr w1)(l:w2.ownsRow W.heap.size 187 2 v' (s.cases.length+1) (bv s.cases++x.cells))(e:w1.grownBy w2 vc.ownBlock)(m:s.cases.length+1<=mN)(n:x.Tiny):gM mN W (w2.setCell ⟨sb,2,none⟩ v') rb sb a cap bs p va v' {s with cases:=s.cases++[x]}:=by
 have b:=h.kept k;have c:aB 187 w1 w2:=aB.aI b.cases e;have f:=b.box.same c A8;have i:=f.row.same (o:=2) v';have j:Below W.heap.size w1 (w2.setCell ⟨sb,2,none⟩ v'):=((Below.refl _ _).grown e b.kb.size λq c=>(b.cases.lt q c).1).setCell h.sbl v';obtain⟨t,r⟩:=h.rd0;refine⟨b.rd.below r j b.kb.size,h.rd0,h.sbl,b.kb.below j,f.cases v' _,aY (aY b.asks c A8) i A8,?_,?_⟩
 .have:=aY l i A8;rw[<-v_] at this;simpa using this
 .refine⟨h.tiny.asks,h.tiny.fA,h.tiny.on,by simpa using m,λy d=>?_,h.tiny.els,h.tiny.fall,h.tiny.give⟩;simp only[PK,PI] at d;rcases d with d|rfl
  .exact h.tiny.dK y d
  .exact n
def lV(cs:List QY):Prop:=∀n c,Value.slice none n c∈cs->n=0/\c=0
variable {cs xs:List QY}
theorem lV.append(h:lV xs)(k:lV cs):lV (xs++cs):=λn c e=>by
 rcases PK.1 e with a|a
 .exact h n c a
 .exact k n c a
theorem jG{base:Nat}{e:TypeId}{c:Nat}(h:w.ownsRow base e size (.slice none n c) m xs):n=0/\c=0:=by
 rcases h.2 with⟨e,_⟩|⟨g,b,d,e,_⟩
 .simp only[Qm,true_and] at e;exact e
 .simp at e
variable {ca cc:Nat}{aa ac:QW}
theorem kZ(b:aa=none->s.asks.length=0/\ca=0)(h2:ac=none->s.cases.length=0/\cc=0):lV (s.cells aa ca ac cc):=by
 intro n c a;simp only[Xq.cells,Qr,Qs,or_false,Qm,reduceCtorEq,false_or,or_self] at a;rcases a with⟨e,rfl,rfl⟩|⟨e,rfl,rfl⟩
 .exact b e.symm
 .exact h2 e.symm
theorem gM.pM(h:gM mN W wr rb sb a cap bs p (.slice aa n ca) (.slice ac m cc) s)(b:n=s.asks.length)(c:m=s.cases.length):lV (s.cells aa ca ac cc):=by
 subst b c;exact kZ (λe=>by subst e;exact jG h.asks) (λe=>by subst e;exact jG h.cases)
theorem gM.cells(h:gM mN W wr rb sb a cap bs p va vc s):∃aa ca ac cc,va=.slice aa s.asks.length ca/\vc=.slice ac s.cases.length cc/\mU wr 9 187 (s.cells aa ca ac cc) s:=by
 obtain⟨aa,ca,b,c,d⟩:=dD h.asks;obtain⟨ac,cc,e,f⟩:=mD h.cases;exact⟨aa,ca,ac,cc,b,e,aa,ca,ac,cc,rfl,d,f,c⟩
abbrev SSt (W wr:QX)(rb sb:Nat)(a:QW)(cap:Nat)(bs:List UInt8)(p:Nat)(va vc:QY)(s:Xq):Prop:=gM 20 W wr rb sb a cap bs p va vc s
structure kK (m:Nat)(w wr:QX)(rb ab:Nat)(a:QW)(cap:Nat)(bs:List UInt8)(p:Nat)(cost:Int)(v:QY)(L:List Xq)(xs:List QY):Prop where
 rd:Rd wr rb a cap bs p
 rd0:∃p0,Rd w rb a cap bs p0
 abl:w.heap.size<=ab
 kb:Xj rb (rb+1) w wr
 row:aH wr ab 62 2
 c0:wr.cell? ⟨ab,0,none⟩=some (.b cost)
 c1:wr.cell? ⟨ab,1,none⟩=some v
 own:wr.ownsRow w.heap.size 146 8 v L.length xs
 pack:fO wr 9 187 xs L
 tiny:∀s∈L,s.TinyN m
 pM:lV xs
variable {L:List Xq}{ab:Nat}
theorem kK.rbl{cost:Int}(h:kK mN w wr rb ab a cap bs p cost v L xs):rb<w.heap.size:=let ⟨_,h0⟩:=h.rd0;h0.row.lt
theorem kK.drawn{cost:Int}(h:kK mN w wr rb ab a cap bs p cost v L xs)(e:Rd w' rb a cap bs p')(k:Xj rb (rb+1) wr w'):kK mN w w' rb ab a cap bs p' cost v L xs:=by
 have c:=k.sameKind h.rd;have:=h.rbl;have:=h.abl;have d:∀o,w'.cell? ⟨ab,o,none⟩=wr.cell? ⟨ab,o,none⟩:=λo=>k.cell h.row.lt A7
 exact⟨e,h.rd0,h.abl,h.kb.trans k,h.row.but k A7,(d _).trans h.c0,(d _).trans h.c1,aY h.own c A8,h.pack.same c A8 A8,h.tiny,h.pM⟩
theorem kK.kept{cost:Int}(h:kK mN w wr rb ab a cap bs p cost v L xs)(k:K_ wr w'):kK mN w w' rb ab a cap bs p cost v L xs:=h.drawn (h.rd.kept k) (.ak k)
theorem fO.push{ts a:TypeId}{l:List Xq}(h:fO w ts a xs l)(c:mU w ts a cs s):fO w ts a (xs++cs) (l++[s]):=by
 have d:(l++[s]).take l.length=l:=A9;have e:(l++[s]).take (l.length+1)=l++[s]:=by rw[Qd];simp
 have:=fO.snoc (k:=l.length) (l:=l++[s]) A9 (by rw[d];exact h) (cs:=cs) (by simpa[List.getD] using c);rw[e] at this;exact this
theorem kK.gB{cost:Int}(h:kK mN w wr rb ab a cap bs p cost v L xs)(f:K_ wr w1)(i:w1.grownBy w2 v.ownBlock):w2.cell? ⟨ab,1,none⟩=some v/\aH w2 ab 62 2:=by
 have b:=h.kept f;have j:aB 146 w1 w2:=aB.aI b.own i;obtain⟨c,d,k⟩:=b.row;have e:=j ab c _ _ A8 d;exact⟨by rw[PO (w:=w1) (e.trans d.symm)];exact b.c1,c,e,k⟩
theorem kK.push{cost:Int}(h:kK mN w wr rb ab a cap bs p cost v L xs)(j:K_ wr w1)(n:mU wr 9 187 cs s)(q:s.TinyN mN)(r:lV cs)(t:w2.ownsRow w.heap.size 146 8 v' (L.length+1) (xs++cs))(k:w1.grownBy w2 v.ownBlock):kK mN w (w2.setCell ⟨ab,1,none⟩ v') rb ab a cap bs p cost v' (L++[s]) (xs++cs):=by
 have b:=h.kept j;have c:aB 146 w1 w2:=aB.aI b.own k;have i:aH w2 ab 62 2:=by
  obtain⟨d,e,x⟩:=b.row;exact⟨d,c ab d _ _ A8 e,x⟩
 have y:w2.cell? ⟨ab,0,none⟩=some (.b cost):=by
  obtain⟨d,e,_⟩:=b.row;rw[PO (w:=w1) ((c ab d _ _ A8 e).trans e.symm)];exact b.c0
 have l:=i.same (o:=1) v';have m:Below w.heap.size w1 (w2.setCell ⟨ab,1,none⟩ v'):=((Below.refl _ _).grown k b.kb.size λz c=>(b.own.lt z c).1).setCell h.abl v';obtain⟨C,A⟩:=h.rd0;refine⟨b.rd.below A m b.kb.size,h.rd0,h.abl,b.kb.below m,i.set _,(Xk A7 _).trans y,bB i.row A7 _,?_,?_,λB f=>?_,h.pM.append r⟩
 .have:=aY t l A8;simpa using this
 .exact ((b.pack.push (n.same (u:=82) (aB.ak j) A8 A8)).same c A8 A8).same l A8 A8
 .simp only[PK,PI] at f;rcases f with f|rfl
  .exact h.tiny B f
  .exact q
theorem kK.cost{cost:Int}(h:kK mN w wr rb ab a cap bs p cost v L xs):kK mN w (wr.setCell ⟨ab,0,none⟩ (.b x)) rb ab a cap bs p x v L xs:=by
 have c:=h.row.same (o:=0) (.b x);have d:Below w.heap.size wr (wr.setCell ⟨ab,0,none⟩ (.b x)):=(Below.refl _ _).setCell h.abl _;obtain⟨f,e⟩:=h.rd0;exact⟨h.rd.below e d h.kb.size,h.rd0,h.abl,h.kb.below d,h.row.set _,bB h.row.row A7 _,(Xk A7 _).trans h.c1,aY h.own c A8,(h.pack.same c A8 A8),h.tiny,h.pM⟩
abbrev ASt (w wr:QX)(rb ab:Nat)(a:QW)(cap:Nat)(bs:List UInt8)(p:Nat)(cost:Int)(v:QY)(L:List Xq)(xs:List QY):Prop:=kK 20 w wr rb ab a cap bs p cost v L xs
def Ca(w:QX)(v:QY)(L:List Xq):Prop:=∃base xs,w.ownsRow base 146 8 v L.length xs/\fO w 9 187 xs L/\lV xs
def su(w w':QX)(rb:Nat)(a:QW)(cap:Nat)(bs:List UInt8)(p t:Nat)(e:Ending):Prop:=
 ∃(cost:Int)(v:QY)(L:List Xq)(p':Nat),e=.returned (.agg #[.b cost,v])/\p<=p'/\p'<=p+t/\1<=L.length/\L.length<=20/\(-1000<=cost/\cost<=1000)/\(∀s∈L,s.Tiny)/\
  Ca w' v L/\Rd w' rb a cap bs p'/\Xj rb (rb+1) w w'
theorem ASt.made(d:Rd w rb a cap bs p0)(h:Rd w1 rb a cap bs p)(k:Xj rb (rb+1) w w1)(cost:Int):
  ASt w (w1.alloc (.cells #[.b cost,J6] 62)) rb w1.heap.size a cap bs p cost J6 [] []:=by
 have b:=X_ w1 #[.b cost,J6] 62;have c:K_ w1 (w1.alloc (.cells #[.b cost,J6] 62)):=ai _ _;exact⟨h.kept c,⟨p0,d⟩,k.size,k.gJ c,aH.made w1 _ _,b 0 _ rfl,b 1 _ rfl,Qt _ _ _ _,fO.nil _ _ _,λs e=>by simp at e,λn i f=>by simp at f⟩
theorem SSt.made(h:Rd W rb a cap bs p){els fall:Int}(e: -1000<=els/\els<=1000)(f: -1000<=fall/\fall<=1000):
  SSt W (W.alloc (.cells #[J6,.b 0,J6,.b els,.b fall,.bool false,.bool false,.string ⟨#[]⟩] 146)) rb W.heap.size a cap bs p J6 J6 ⟨[],0,[],els,fall,false,false,⟨#[]⟩⟩:=by
 have d:K_ W (W.alloc (.cells #[J6,.b 0,J6,.b els,.b fall,.bool false,.bool false,.string ⟨#[]⟩] 146)):=ai _ _;exact⟨h.kept d,⟨p,h⟩,Pw _,.ak d,dJ.made W els fall,Qt _ _ _ _,Qt _ _ _ _,⟨A9,λx b=>by simp at b,⟨F8,F9⟩,A9,λx b=>by simp at b,oM e,f,by show (⟨#[]⟩:QV).size<=300;decide⟩⟩
theorem Ea(w:QX)(a:QW)(cap m:Nat)(l:List QV)(c:l.length=m)(i:l.length<=1000)(d:∀s∈l,s.size<=1000)(f:Strs w a l):
  Calls prog 30 #[.slice a m cap] w λe w'=>(∃b:Bool,e=.returned (.bool b))/\K_ w w':=by
 subst c;refine (mJ w a cap l D6 (λs h=>by have:=d s h;unfold maxLen;omega) f).mono ?_;rintro e w' ⟨⟨r,rfl,_⟩,k⟩;exact⟨⟨r,rfl⟩,k⟩
theorem lS(w:QX)(x:QV):∀j u,([.string x]:List QY)[j]? =some u->(w.alloc (.cells #[.string x] 9)).cell? ((⟨w.heap.size,0,none⟩:Addr).add j)=some u:=λj u a=>by
 rw[Qo];exact X_ w #[.string x] 9 j u a
theorem lF(x:QV):∀u∈([.string x]:List QY),u.oneCell'=true:=λu a=>by simp at a;subst a;rfl
variable {e:Ending}{A0 w5:QX}
theorem kK.ends{t:Nat}{cost:Int}{b:List Xq}(h:kK 20 A0 w5 rb ab a cap bs p' cost v b xs)(c:aH w5 w.heap.size 62 2)(k0:K_ w A0){l:Nat}(m:Rd w rb a cap bs l)(n:e=.returned (.agg #[.b cost,v]))(q:p<=p')(h2:p'<=p+t)(r:1<=b.length)(s:b.length<=20)(x: -1000<=cost/\cost<=1000):su w ((w5.setCell ⟨w.heap.size,0,none⟩ (.b cost)).setCell ⟨w.heap.size,1,none⟩ v) rb a cap bs p t e:=by
 have y:=c.same (o:=0) (.b cost);have z:=(c.set (o:=0) (.b cost)).same (o:=1) v;have d:=y.trans z;have f:Below w.heap.size w5 ((w5.setCell ⟨w.heap.size,0,none⟩ (.b cost)).setCell ⟨w.heap.size,1,none⟩ v):=((Below.refl _ _).setCell (p:=⟨w.heap.size,0,none⟩) (Pw _) _).setCell (p:=⟨w.heap.size,1,none⟩) (Pw _) _;have i:Xj rb (rb+1) w w5:=⟨h.kb.os.trans k0.os,h.kb.tape.trans k0.tape,h.kb.output.trans k0.output,Pz k0.size h.kb.size,λj k A=>(h.kb.block j (Px k k0.size) A).trans (k0.block j k)⟩;exact⟨cost,v,b,p',n,q,h2,r,s,x,h.tiny,⟨_,xs,aY h.own d A8,h.pack.same d A8 A8,h.pM⟩,h.rd.below m f i.size,i.below f⟩
def Pb(A0:QX)(ab rb:Nat)(a:QW)(cap:Nat)(bs:List UInt8)(p:Nat)(s8:QY)(wx:QX):Prop:=
 ∃(n1:Nat)(cost:Int)(p':Nat),s8=.b (1+(n1:Int))/\n1<=3/\(1<=cost/\cost<=20)/\p<=p'/\p'<=p+4/\ASt A0 wx rb ab a cap bs p' cost J6 [] []
def Ox(A0:QX)(ab rb:Nat)(a:QW)(cap:Nat)(bs:List UInt8)(p:Nat)(s7:QY)(wx:QX):Prop:=
 ∃(cost:Int),s7=.h ab/\(1<=cost/\cost<=20)/\ASt A0 wx rb ab a cap bs (p+2) cost J6 [] []
theorem Dm{a:Addr}{l:List QV}(h:Strs w (some a) l):∀j u,(l.map Value.string)[j]? =some u->w.cell? (a.add j)=some u:=by
 intro j u b;rw[List.getElem?_map] at b;obtain⟨x,d,rfl⟩:=Option.map_eq_some_iff.1 b;obtain⟨c,f⟩:=PG.1 d;obtain⟨k,m,e,_,i⟩:=h j c;simp only[Ql] at e;subst e;rw[Qo,i];simp[List.getD,c,f]
theorem Cb{a:Addr}{l:List bQ}(h:lK w (some a) l):∀j u,(bv l)[j]? =some u->w.cell? (a.add j)=some u:=by
 intro j u b;have k:j<l.length*2:=by rw[<-jq];exact (PG.1 b).1
 have c:j / 2<l.length:=A7;have e:=lL l (j / 2) (j % 2) c A7;rw[show j / 2*2+j % 2=j by omega,b] at e;obtain⟨m,d,f,_,i⟩:=h (j / 2) c;simp only[Ql] at f;subst f;have:=i (j % 2) u e.symm;rw[Qo];rw[show d+j / 2*2+j % 2=d+j by omega] at this;exact this
def lT(w:QX)(a:QW)(l:List Xq):Prop:=
 ∀i,i<l.length->∃b o aa ca ac cc,a=some ⟨b,o,none⟩/\b<w.heap.size/\w.rangeAt b (o+i*8) ((l.getD i Xq.zero).cells aa ca ac cc)/\Strs w aa (l.getD i Xq.zero).asks/\lK w ac (l.getD i Xq.zero).cases/\
  (aa=none->(l.getD i Xq.zero).asks.length=0/\ca=0)/\(ac=none->(l.getD i Xq.zero).cases.length=0/\cc=0)
theorem lT.kept{l:List Xq}(h:lT w a l)(k:K_ w w'):lT w' a l:=by
 intro i c;obtain⟨d,o,e,f,j,m,n,b,p,q,r,s,t⟩:=h i c;exact⟨d,o,e,f,j,m,n,Px b k.size,k.range b p,q.kept k,r.kept k,s,t⟩
def jH(w:QX)(base:Nat)(cs:List QY)(s:Xq):Prop:=
 ∃aa ca ac cc,cs=s.cells aa ca ac cc/\w.ownsRow base 9 1 (.slice aa s.asks.length ca) s.asks.length (s.asks.map Value.string)/\w.ownsRow base 187 2 (.slice ac s.cases.length cc) s.cases.length (bv s.cases)
variable {u:TypeId}
theorem jH.same{base:Nat}(h:jH w base cs s)(k:aB u w w')(a:9≠u)(h2:187≠u):jH w' base cs s:=by
 obtain⟨b,c,d,e,f,i,j⟩:=h;exact⟨b,c,d,e,f,aY i k a,aY j k h2⟩
theorem jH.base{base base':Nat}(h:jH w base cs s)(a:base'<=base):jH w base' cs s:=by
 obtain⟨b,c,d,e,f,i,j⟩:=h;exact⟨b,c,d,e,f,gX i a,gX j a⟩
theorem jH.step{base:Nat}(h:jH w base cs s):mU w 9 187 cs s:=by
 obtain⟨k,l,m,n,e,c,d⟩:=h;obtain⟨p,q,a,f,i⟩:=dD c;obtain⟨r,t,b,j⟩:=mD d;simp only[Qm,true_and] at a b;obtain⟨rfl,rfl⟩:=a;obtain⟨rfl,rfl⟩:=b;exact⟨_,_,_,_,e,i,j,f⟩
theorem jH.pM{base:Nat}(h:jH w base cs s):lV cs:=by
 obtain⟨c,d,f,i,rfl,a,b⟩:=h;exact kZ (λe=>by subst e;exact jG a) (λe=>by subst e;exact jG b)
def yG(cs:List QY):Option Nat:=(cs.getD 0 undef).ownBlock
def tX(cs:List QY):Option Nat:=(cs.getD 2 undef).ownBlock
theorem jH.ET{base:Nat}(h:jH w base cs s):(∀b,yG cs=some b->base<=b/\b<w.heap.size)/\∀b,tX cs=some b->base<=b/\b<w.heap.size:=by
 obtain⟨e,f,i,j,rfl,c,d⟩:=h;exact⟨λb a=>c.lt b a,λb a=>d.lt b a⟩
def mh(xs:List QY)(i:Nat):List QY:=(xs.drop (i*8)).take 8
structure fw (w:QX)(base:Nat)(xs:List QY)(l:List Xq):Prop where
 len:xs.length=l.length*8
 each:∀i,i<l.length->jH w base (mh xs i) (l.getD i Xq.zero)
 apart:∀i j,i<l.length->j<l.length->i≠j->(∀b,yG (mh xs i)=some b->yG (mh xs j)≠some b)/\∀b,tX (mh xs i)=some b->tX (mh xs j)≠some b
theorem fw.nil(w:QX)(base:Nat):fw w base [] []:=⟨rfl,λi a=>by simp at a,λi j a=>by simp at a⟩
theorem fw.same{base:Nat}{l:List Xq}(h:fw w base xs l)(k:aB u w w')(b:9≠u)(h2:187≠u):fw w' base xs l:=
 ⟨h.len,λi d=>(h.each i d).same k b h2,h.apart⟩
theorem fw.packed{base:Nat}{l:List Xq}(h:fw w base xs l):fO w 9 187 xs l:=⟨h.len,λi c=>(h.each i c).step⟩
theorem fw.push{base H:Nat}{l:List Xq}(m:fw w base xs l)(d:jH w H cs s)(a:base<=H)(k:∀i,i<l.length->(∀b,yG (mh xs i)=some b->b<H)/\∀b,tX (mh xs i)=some b->b<H):fw w base (xs++cs) (l++[s]):=by
 have p:cs.length=8:=by obtain⟨_,_,_,_,rfl,_⟩:=d;rfl
 have n:=m.len;have old:∀i,i<l.length->mh (xs++cs) i=mh xs i/\(l++[s]).getD i Xq.zero=l.getD i Xq.zero:=by
  intro i h;refine⟨?_,by simp[List.getD,Qx h]⟩;unfold mh;rw[List.drop_append_of_le_length A7,List.take_append_of_le_length I9]
 have new:mh (xs++cs) l.length=cs/\(l++[s]).getD l.length Xq.zero=s:=by
  refine⟨?_,H7⟩;unfold mh;rw[<-n,List.drop_left,Qd A7]
 refine⟨by simp only[Qi,Qn,List.length_nil,n,p];omega,λi h=>?_,λi j h q r=>?_⟩
 .by_cases e:i<l.length
  .rw[(old i e).1,(old i e).2];exact m.each i e
  .obtain rfl:i=l.length:=by simp at h;omega
   rw[new.1,new.2];exact d.base a
 .simp only[Qi,Qn,List.length_nil] at h q;by_cases e:i<l.length
  .by_cases f:j<l.length
   .rw[(old i e).1,(old j f).1];exact m.apart i j e f r
   .obtain rfl:j=l.length:=A7;rw[(old i e).1,new.1];exact⟨λb a c=>by have:=(k i e).1 b a;have:=(d.ET.1 b c).1;omega,λb a c=>by have:=(k i e).2 b a;have:=(d.ET.2 b c).1;omega⟩
  .obtain rfl:i=l.length:=A7;have f:j<l.length:=A7;rw[new.1,(old j f).1];exact⟨λb a c=>by have:=(k j f).1 b c;have:=(d.ET.1 b a).1;omega,λb a c=>by have:=(k j f).2 b c;have:=(d.ET.2 b a).1;omega⟩
structure CSt (w wr:QX)(a:QW)(n cap:Nat)(cost:Int)(v:QY)(L:List Xq)(xs:List QY):Prop where
 kept:K_ w wr
 NC:aH wr w.heap.size 62 2
 arg:wr.cell? ⟨w.heap.size,1,none⟩=some (.slice a n cap)
 res:aH wr (w.heap.size+1) 62 2
 out:aH wr (w.heap.size+2) 62 2
 o0:wr.cell? ⟨w.heap.size+2,0,none⟩=some (.b cost)
 o1:wr.cell? ⟨w.heap.size+2,1,none⟩=some v
 own:wr.ownsRow w.heap.size 146 8 v L.length xs
 pack:fw wr w.heap.size xs L
theorem CSt.ak{cost:Int}(h:CSt w wr a n cap cost v L xs)(k:K_ wr w'):CSt w w' a n cap cost v L xs:=
 ⟨h.kept.trans k,h.NC.kept k,(k.cell h.NC.lt).trans h.arg,h.res.kept k,h.out.kept k,(k.cell h.out.lt).trans h.o0,(k.cell h.out.lt).trans h.o1,ay h.own k,h.pack.same (u:=82) (aB.ak k) A8 A8⟩
theorem CSt.gB{cost:Int}(h:CSt w wr a n cap cost v L xs)(f:K_ wr w1)(i:w1.grownBy w2 v.ownBlock):w2.cell? ⟨w.heap.size+2,1,none⟩=some v/\aH w2 (w.heap.size+2) 62 2:=by
 have b:=h.ak f;have j:aB 146 w1 w2:=aB.aI b.own i;obtain⟨c,d,k⟩:=b.out;have e:=j _ c _ _ A8 d;exact⟨by rw[PO (w:=w1) (e.trans d.symm)];exact b.o1,c,e,k⟩
theorem CSt.push{f:QX}{cost:Int}(h:CSt w wr a n cap cost v L xs)(x:K_ wr f)(i:K_ f w1)(y:jH f wr.heap.size cs s)(z:w2.ownsRow w.heap.size 146 8 v' (L.length+1) (xs++cs))(j:w1.grownBy w2 v.ownBlock):CSt w (w2.setCell ⟨w.heap.size+2,1,none⟩ v') a n cap cost v' (L++[s]) (xs++cs):=by
 have b:=h.ak (x.trans i);have k:aB 146 w1 w2:=aB.aI b.own j;have row:∀c,aH w1 c 62 2->aH w2 c 62 2/\∀o,w2.cell? ⟨c,o,none⟩=w1.cell? ⟨c,o,none⟩:=by
  intro c A;obtain⟨l,m,B⟩:=A;have d:=k _ l _ _ A8 m;exact⟨⟨l,d,B⟩,λo=>PO (w:=w1) (d.trans m.symm)⟩
 have p:=row _ b.NC;have C:=row _ b.res;have e:=row _ b.out;have q:=e.1.same (o:=1) v';have D:=h.kept.size;have E:fw w1 w.heap.size (xs++cs) (L++[s]):=b.pack.push (y.same (u:=82) (aB.ak i) A8 A8) D λr t=>⟨λc d=>((h.pack.each r t).ET.1 c d).2,λc d=>((h.pack.each r t).ET.2 c d).2⟩;refine⟨(aL b.kept (Pw _) b.own j).setCell A9 _,p.1.block (Below.heap_setCell _ _ _ _ A9),?_,C.1.block (Below.heap_setCell _ _ _ _ A9),e.1.set _,(Xk A7 _).trans ((e.2 0).trans b.o0),bB e.1.row A7 _,?_,(E.same k A8 A8).same q A8 A8⟩
 .rw[PU _ _ _ _ A9];exact (p.2 1).trans b.arg
 .have:=aY z q A8;simpa using this
def CS1(wr wx:QX)(s:Xq)(v1 v2:QY):Prop:=K_ wr wx/\dJ wx wr.heap.size v1 v2 s/\wx.ownsRow wr.heap.size 9 1 v1 s.asks.length (s.asks.map Value.string)
def CS2(wr wx:QX)(s:Xq)(v1 v2:QY):Prop:=CS1 wr wx s v1 v2/\wx.ownsRow wr.heap.size 187 2 v2 s.cases.length (bv s.cases)
def Oc(w w':QX)(cost:Int)(L:List Xq)(e:Ending):Prop:=
 ∃(v:QY)(xs:List QY),e=.returned (.agg #[.b cost,v])/\w'.ownsRow w.heap.size 146 8 v L.length xs/\fw w' w.heap.size xs L/\K_ w w'
theorem dJ.copied(w:QX)(s:Xq)(aa:QW)(ca:Nat)(ac:QW)(cc:Nat):dJ (w.alloc (.cells #[.slice aa s.asks.length ca,.b s.on,.slice ac s.cases.length cc,.b s.els,.b s.fall,.bool s.fin,.bool s.bad,.string s.give] 146)) w.heap.size (.slice aa s.asks.length ca) (.slice ac s.cases.length cc) s:=by
 have d:=X_ w #[.slice aa s.asks.length ca,.b s.on,.slice ac s.cases.length cc,.b s.els,.b s.fall,.bool s.fin,.bool s.bad,.string s.give] 146;have a:∀j v,(#[.slice aa s.asks.length ca,.b s.on,.slice ac s.cases.length cc,.b s.els,.b s.fall,.bool s.fin,.bool s.bad,.string s.give]:Array QY).toList[j]? =some v->(w.alloc (.cells #[.slice aa s.asks.length ca,.b s.on,.slice ac s.cases.length cc,.b s.els,.b s.fall,.bool s.fin,.bool s.bad,.string s.give] 146)).cell? ⟨w.heap.size,j,none⟩=some v:=λj v e=>by
  have:=d j v e;rw[Qb] at this;exact this
 exact⟨aH.made w _ _,a 0 _ rfl,a 1 _ rfl,a 2 _ rfl,a 3 _ rfl,a 4 _ rfl,a 5 _ rfl,a 6 _ rfl,a 7 _ rfl⟩
variable {xs0:List QY}{n0:Nat}{u0 v0:QY}{W1:QX}
theorem CS1.mk'{v1 v2:QY}(e:K_ wr W1)(f:dJ W1 wr.heap.size v0 v2 s)(a:K_ W1 w1)(b:w1.ownsRow wr.heap.size 9 1 u0 n0 xs0)(c:w1.grownBy w2 u0.ownBlock)(h:w2.ownsRow wr.heap.size 9 1 v1 s.asks.length (s.asks.map Value.string)):CS1 wr (w2.setCell ⟨wr.heap.size,0,none⟩ v1) s v1 v2:=by
 have d:dJ w2 wr.heap.size v0 v2 s:=(f.kept a).same (aB.aI b c) A8;exact⟨(aL (e.trans a) (Pw _) b c).setCell (Pw _) _,d.asks v1 s.asks,aY h (d.row.same _) A8⟩
theorem CS1.box{v2:QY}(a:dJ W1 wr.heap.size v0 v2 s)(b:K_ W1 w1)(c:w1.ownsRow wr.heap.size 9 1 u0 n0 xs0)(d:w1.grownBy w2 u0.ownBlock):dJ w2 wr.heap.size v0 v2 s:=
 (a.kept b).same (aB.aI c d) A8
theorem CS2.mk'{v1 v2:QY}(h:CS1 wr W1 s v1 v0)(a:K_ W1 w1)(c:w1.ownsRow wr.heap.size 187 2 u0 n0 xs0)(d:w1.grownBy w2 u0.ownBlock)(f:w2.ownsRow wr.heap.size 187 2 v2 s.cases.length (bv s.cases)):CS2 wr (w2.setCell ⟨wr.heap.size,2,none⟩ v2) s v1 v2:=by
 obtain⟨i,j,k⟩:=h;have e:=aB.aI c d;have b:dJ w2 wr.heap.size v1 v0 s:=(j.kept a).same e A8;exact⟨⟨(aL (i.trans a) (Pw _) c d).setCell (Pw _) _,b.cases v2 s.cases,aY (aY (ay k a) e A8) (b.row.same _) A8⟩,aY f (b.row.same _) A8⟩
theorem CS2.box{v1:QY}(h:CS1 wr W1 s v1 v0)(b:K_ W1 w1)(c:w1.ownsRow wr.heap.size 187 2 u0 n0 xs0)(d:w1.grownBy w2 u0.ownBlock):dJ w2 wr.heap.size v1 v0 s:=
 (h.2.1.kept b).same (aB.aI c d) A8
theorem xM(w:QX)(r:Option Nat):w.grownBy w r:=⟨rfl,rfl,rfl,Pw _,λ_ _ _=>rfl⟩
theorem Dq(w:QX){base:Nat}(a:base<=w.heap.size)(t:TypeId)(size:Nat):(w.alloc (.cells #[] t)).ownsRow base t size (.c w.heap.size 0 0) 0 []:=
 Qa w #[] 0 a (Py _) A9
theorem ER(w:QX)(cost:Int)(a:QW)(cap:Nat)(l:List Xq)(hl:l.length<=1000)(f7:mN<=1000)(hs:∀s∈l,s.TinyN mN)(hS:lT w a l):
  Calls prog 140 #[.agg #[.b cost,.slice a l.length cap]] w λe w'=>Oc w w' cost l e:=by
 go_enter func140,ntmps140
 go_wp2
 have k0:K_ w (((w.alloc (.cells #[.b cost,.slice a l.length cap] 62)).alloc (.cells #[.b 0,J6] 62)).alloc (.cells #[.b cost,J6] 62)):=((ai _ _).alloc _).alloc _;go_loopg [4] l.length λg b6 wr=>∃(k:Nat)(b2:QY)(C:List QY),k+g=l.length/\b6=.b k/\CSt w wr a l.length cap cost b2 (l.take k) C
 case atStart=>
  have X:=X_ ((w.alloc (.cells #[.b cost,.slice a l.length cap] 62)).alloc (.cells #[.b 0,J6] 62)) #[.b cost,J6] 62;simp only[Qh] at X;refine⟨0,J6,[],A7,rfl,⟨k0,?_,?_,?_,?_,X 0 _ rfl,X 1 _ rfl,Qt _ _ _ _,fw.nil _ _⟩⟩
  .exact aH.kept (aH.made w #[.b cost,.slice a l.length cap] 62) ((ai _ _).alloc _)
  .rw[K_.cell (w:=w.alloc (.cells #[.b cost,.slice a l.length cap] 62)) ((ai _ _).alloc _) A9];exact X_ w _ _ 1 _ rfl
  .exact aH.kept (by have:=aH.made (w.alloc (.cells #[.b cost,.slice a l.length cap] 62)) #[.b 0,J6] 62;simpa using this) (ai _ _)
  .have:=aH.made ((w.alloc (.cells #[.b cost,.slice a l.length cap] 62)).alloc (.cells #[.b 0,J6] 62)) #[.b cost,J6] 62;simpa using this
 case round=>
  clear k0;obtain⟨k,b2,C,Y,rfl,Q⟩:=hrel;have b:=Kz Q;have p1:=Q.arg;have zp:=Q.NC.lt;clear Q;by_cases R:k<l.length
  .obtain⟨f8,o,S,T,D,E,rfl,hb,i,Z,a0,y,z⟩:=(hS.kept b.o.kept) k R;have F:=hs (l.getD k Xq.zero) (by simp[List.getD,R]);obtain⟨s,a1⟩:=aj (l.getD k Xq.zero);rw[<-a1] at i Z a0 F y z;have b7:=Kz a1;clear a1;have c0:=i 0 _ rfl;have c1:=i 1 _ rfl;have c2:=i 2 _ rfl;have c3:=i 3 _ rfl;have c4:=i 4 _ rfl;have c5:=i 5 _ rfl;have c6:=i 6 _ rfl;have c7:=i 7 _ rfl;rw[Qp] at c0;clear i;have⟨HA,b8⟩:=aJ Z a0;have v:=Kz (dJ.copied wr s S T D E);have x:Hid (K_ wr (wr.alloc (.cells #[.slice S s.asks.length T,.b s.on,.slice D s.cases.length E,.b s.els,.b s.fall,.bool s.fin,.bool s.bad,.string s.give] 146))):=ai _ _;have b9:=F.asks;have c8:=F.cases;have f9:=Kz F;clear Z a0 F;have g0:(k:Int)<l.length:=A7;go_upto_region 6 with fail
   obtain⟨G,b3⟩:=aj (wr.alloc (.cells #[.slice S s.asks.length T,.b s.on,.slice D s.cases.length E,.b s.els,.b s.fall,.bool s.fin,.bool s.bad,.string s.give] 146));rw[<-b3] at v x⊢;clear b3 c0 c1 c2 c3 c4 c5 c6 c7 p1;have y0:=v.o.c0;have H:=v.o.row.lt;have c9:=x.o.size;obtain⟨_,f0⟩:=v.o.cell (o:=0) A7;obtain⟨ia,d0,d1,d2,d3⟩:=aV Tryz.gV;obtain⟨ic,d4,d5,d6,d7⟩:=aV Tryz.qZ;have c:=Kz (Dq G (base:=wr.heap.size) x.o.size 9 1);have d:Hid (K_ G (G.alloc (.cells #[] 9))):=ai _ _;go_cut [5] from 9 to 36 λs5 wx=>∃U,s5=.h wr.heap.size/\CS1 wr wx s U (.slice D s.cases.length E)
   case first=>
    rcases S with _|ad
    .obtain⟨A,I⟩:=y rfl;have a2:Hid (s.asks=[]):=QO A;rw[A,I] at y0;clear y z b9 A I;go_wp2
     go_meet
     rw[<-World.setCell_alloc_past _ _ _ _ H];exact⟨_,rfl,CS1.mk' x.o v.o d.o c.o (xM _ _) (by rw[a2.o];exact c.o)⟩
    .have J:=Kz (Dm ((HA.o.kept x.o).kept d.o));have a3:wr.heap.size<=(G.alloc (.cells #[] 9)).heap.size:=(x.o.trans d.o).size;clear y z;go_wp2_with (at_builtin;refine wpList_append_own _ rfl (.tmp 21) (.tmp 23) 26 rfl wr.heap.size 9 ia _ 1 16 underlying26 d0 d1 d2 d3 rfl A8 (.c G.heap.size 0 0) 0 [] rfl c.o ad s.asks.length T (s.asks.map Value.string) rfl A9 J.o (yw _) D6 A7 a3 ?_;intro U w2 n B _;rw[Qb,List.nil_append] at n;obtain⟨d8,d9,rfl⟩:=aG n;have f:=CS1.box v.o d.o c.o B;have K:=f.c0;have z2:=f.row.lt;obtain⟨_,V⟩:=f.cell (o:=0) A7;have a4:=Kz n;have a5:=Kz B;clear n B f)
     go_meet
     exact⟨_,rfl,CS1.mk' x.o v.o d.o c.o a5.o a4.o⟩
   case rest=>
    clear c d y0 H f0 c9;obtain⟨U,rfl,h1⟩:=hcut;obtain⟨L,rfl⟩:=aj wc;have j:=Kz h1;clear h1 v x;have K:=j.o.2.1.c2;have H:=j.o.2.1.row.lt;obtain⟨_,V⟩:=j.o.2.1.cell (o:=2) A7;have c:=Kz (Dq L (base:=wr.heap.size) j.o.1.size 187 2);have d:Hid (K_ L (L.alloc (.cells #[] 187))):=ai _ _;go_upto_region 7 with fail
    go_cut [5] from 9 to 36 λs5 wx=>∃v2,s5=.h wr.heap.size/\CS2 wr wx s U v2
    case first=>
     rcases D with _|ad
     .obtain⟨A,I⟩:=z rfl;have a2:Hid (s.cases=[]):=QO A;rw[A,I] at K;clear y z c8 A I;go_wp2
      go_meet
      rw[<-World.setCell_alloc_past _ _ _ _ H];exact⟨_,rfl,CS2.mk' j.o d.o c.o (xM _ _) (by rw[a2.o];exact c.o)⟩
     .have J:=Kz (Cb ((b8.o.kept j.o.1).kept d.o));have a3:wr.heap.size<=(L.alloc (.cells #[] 187)).heap.size:=(j.o.1.trans d.o).size;clear y z;go_wp2_with (at_builtin;refine wpList_append_own _ rfl (.tmp 26) (.tmp 28) 144 rfl wr.heap.size 187 ic _ 2 24 underlying144 d4 d5 d6 d7 rfl A8 (.c L.heap.size 0 0) 0 [] rfl c.o ad s.cases.length E (bv s.cases) rfl (jq _) J.o (xO _) D6 A7 a3 ?_;intro v2 w2 n B _;rw[Qb,List.nil_append] at n;obtain⟨d8,d9,rfl⟩:=aG n;have f:=CS2.box j.o d.o c.o B;have K:=f.c2;have z2:=f.row.lt;obtain⟨_,V⟩:=f.cell (o:=2) A7;have a4:=Kz n;have a5:=Kz B;clear n B f)
      go_meet
      exact⟨_,rfl,CS2.mk' j.o d.o c.o a5.o a4.o⟩
    case rest=>
     clear c d K H V j;obtain⟨v2,rfl,h2⟩:=hcut;obtain⟨⟨k4,h,a6⟩,a7⟩:=h2;obtain⟨p,q,rfl⟩:=aG a6;obtain⟨r,t,rfl⟩:=aG a7;have e0:Hid (jH wc wr.heap.size (s.cells p q r t) s):=⟨p,q,r,t,rfl,a6,a7⟩;have⟨g1,a8⟩:=aJ h k4;clear a6 a7;have c0:=h.c0;have c1:=h.c1;have c2:=h.c2;have c3:=h.c3;have c4:=h.c4;have c5:=h.c5;have c6:=h.c6;have c7:=h.c7;have cz:=h.row.lt;clear h k4;have M:=b.o.ak a8.o;obtain⟨e1,e2,rfl⟩:=aG b.o.own;have o1:=M.o1;have oz:=M.out.lt;have N:K_ wc (wc.alloc (.cells #[.slice p s.asks.length q,.b s.on,.slice r s.cases.length t,.b s.els,.b s.fall,.bool s.fin,.bool s.bad,.string s.give] 146)):=ai _ _;have e3:=Kz N;have b4:=Kz (M.ak N).own;have e4:=Kz (M.ak N).kept.size;have b5:∀W u,(s.cells p q r t)[W]? =some u->(wc.alloc (.cells #[.slice p s.asks.length q,.b s.on,.slice r s.cases.length t,.b s.els,.b s.fall,.bool s.fin,.bool s.bad,.string s.give] 146)).cell? ((⟨wc.heap.size,0,none⟩:Addr).add W)=some u:=λW u hu=>by rw[Qo];exact X_ wc #[.slice p s.asks.length q,.b s.on,.slice r s.cases.length t,.b s.els,.b s.fall,.bool s.fin,.bool s.bad,.string s.give] 146 W u hu
     have J:=Kz b5;obtain⟨is,e5,e6,e7,e8⟩:=aV Tryz.lu;have a9:(l.take k).length=k:=F3;rw[a9] at o1 b4 b;have g2:k<=1000:=A7;have e9:=Kz a9;have f1:=Kz (a8.o.trans N);clear N b5 M y z a9;go_wp2_with (at_builtin;refine wpList_append_own _ rfl (.tmp 32) (.tmp 34) 60 rfl w.heap.size 146 is _ 8 96 underlying60 e5 e6 e7 e8 rfl A8 (.slice e1 k e2) k C rfl b4.o ⟨wc.heap.size,0,none⟩ 1 1 (s.cells p q r t) rfl rfl J.o (jQ s p q r t) D6 A7 e4.o ?_;intro v' w2 b0 b1 _;have f:=b.o.gB f1.o b1;have z2:=f.2.lt;obtain⟨⟨_,K⟩,V⟩:=f.2.row.at (i:=1) A7;have f2:=Kz b0;obtain⟨O,P,rfl⟩:=aG b0;have f3:=Kz b1;clear b0 b1 f)
     go_roundg (gk-1)
     case measure=>omega
     case rel=>
      have et:l.take (k+1)=l.take k++[s]:=by
       rw[PH R,b7.o];simp[List.getD,R]
      refine⟨k+1,.slice O (k+1) P,C++s.cells p q r t,A7,C8,?_⟩;rw[et];exact b.o.push a8.o e3.o e0.o (by rw[e9.o];exact f2.o) f3.o
  .have f4:k=l.length:=A7;subst f4;rw[Qc] at b;have o0:=b.o.o0;obtain⟨O,P,rfl⟩:=aG b.o.own;have o1:=b.o.o1;have oz:=b.o.out.lt;obtain⟨⟨_,x0⟩,g3⟩:=b.o.res.row.at (i:=0) A7;obtain⟨⟨_,x1⟩,g4⟩:=b.o.res.row.at (i:=1) A7;have rz:=b.o.res.lt;go_wp2
   have hR:=PD wr (w.heap.size+1) 0 [.b cost,.slice O l.length P] (b.o.res.row.there (o:=0) (m:=2) (Pw _));have f5:=b.o.res.same (o:=0) (.b cost);have f6:=(b.o.res.set (o:=0) (.b cost)).same (o:=1) (.slice O l.length P);have Y:=f5.trans f6;exact Zx [.b cost,.slice O l.length P] _ results140 rfl hR underlying62 rfl Tryz.jl rfl ⟨_,C,rfl,aY b.o.own Y A8,b.o.pack.same Y A8 A8,(b.o.kept.setCell A9 _).setCell A9 _⟩
theorem Tryz.BB :(prog.info? 146).map (·.size)=some 8:=C9
def StW(w:QX)(v:QY)(L:List Xq):Prop:=
 ∃a cap,v=.slice a L.length cap/\L.length<=cap/\∀i,i<L.length->∃b o cur fr cs,a=some ⟨b,o,none⟩/\w.heap[b]? =some (Obj.cells cur 146 fr)/\w.rangeAt b (o+i*8) cs/\mU w 9 187 cs (L.getD i Xq.zero)/\lV cs
theorem StW.same(h:StW w v L)(k:aB u w w')(i:146≠u)(l:9≠u)(h2:187≠u):StW w' v L:=by
 obtain⟨a,m,n,p,g⟩:=h;refine⟨a,m,n,p,λq r=>?_⟩;obtain⟨b,o,c,d,s,t,e,x,y,z⟩:=g q r;have f:=k b c _ d i e;exact⟨b,o,c,d,s,t,f,λj A B=>by rw[PO (w:=w) (f.trans e.symm)];exact x j A B,y.same k l h2,z⟩
theorem qQ{base g:Nat}(h:w.ownsRow base 146 8 (.c g n cap) n xs)(i:Nat):w.rangeAt g (0+i*8) (mh xs i):=by
 intro j u a;unfold mh at a;have d:j<8:=by have:=(PG.1 a).1;rw[PW] at this;omega
 rw[List.getElem?_take,QI d,List.getElem?_drop] at a;have:=h.cells (g:=g) rfl _ _ a;rw[Qo] at this;rw[Nat.add_assoc];exact this
theorem MP{i:Nat}{u:QY}(h:u∈mh xs i):u∈xs:=List.mem_of_mem_drop (List.mem_of_mem_take h)
theorem StW.gW{base:Nat}(h:w.ownsRow base 146 8 v L.length xs)(b:fO w 9 187 xs L)(c:lV xs):StW w v L:=by
 rcases h.2 with⟨rfl,d⟩|⟨g,e,f,rfl,p,j,k,_,_,_⟩
 .exact⟨none,0,by rw[d],A7,λi a=>A7⟩
 .exact⟨_,e,rfl,k,λi a=>⟨g,0,f,_,_,rfl,j,qQ h i,b.2 i a,λn l m=>c n l (MP m)⟩⟩
theorem fw.pM{base:Nat}{l:List Xq}(h:fw w base xs l):lV xs:=by
 intro n c a;obtain⟨j,b,d⟩:=PN a;have f:=h.len;have e:j / 8<l.length:=A7;refine (h.each (j / 8) e).pM n c ?_;rw[<-d];unfold mh;refine PP (i:=j % 8) ?_;rw[List.getElem?_take,QI A7,List.getElem?_drop,show j / 8*8+j % 8=j by omega,PE b]
def NP(M:Nat)(w w':QX)(rb:Nat)(a:QW)(cap:Nat)(bs:List UInt8)(p t:Nat)(e:Ending):Prop:=
 ∃(cost:Int)(v:QY)(L:List Xq)(p':Nat),e=.returned (.agg #[.b cost,v])/\p<=p'/\p'<=p+t/\L.length<=21/\(-1000<=cost/\cost<=1000)/\(∀s∈L,s.TinyN M)/\StW w' v L/\Rd w' rb a cap bs p'/\Xj rb (rb+1) w w'
theorem l_{base:Nat}{e:TypeId}(h:w.ownsRow base e size v n xs)(a:∀b,v.ownBlock=some b->w'.heap[b]? =w.heap[b]?):w'.ownsRow base e size v n xs:=by
 refine⟨h.1,?_⟩;rcases h.2 with c|⟨g,d,f,rfl,i,j,rest⟩
 .exact .inl c
 .exact .inr ⟨g,d,f,rfl,i,(a g rfl).trans j,rest⟩
def Oth(w:QX)(base:Nat)(va vc:QY)(cs:List QY)(t:Xq):Prop:=jH w base cs t/\(∀b,yG cs=some b->va.ownBlock≠some b)/\∀b,tX cs=some b->vc.ownBlock≠some b
theorem Oth.same{base:Nat}{t:Xq}(h:Oth w base va vc cs t)(k:aB u w w')(b:9≠u)(h2:187≠u):Oth w' base va vc cs t:=⟨h.1.same k b h2,h.2⟩
theorem Oth.MK{base:Nat}{t:Xq}(h:Oth w1 base va vc cs t)(i:w1.ownsRow base 9 1 va n xs)(c:w1.grownBy w2 va.ownBlock)(j:v'.ownBlock=va.ownBlock\/v'.ownBlock=some w1.heap.size):Oth w2 base v' vc cs t:=by
 have d:=h.1.ET;obtain⟨⟨k,l,m,p,rfl,q,r⟩,f,s⟩:=h;refine⟨⟨k,l,m,p,rfl,l_ q λb a=>c.block b (d.1 b a).2 λe=>f b a e.symm,aY r (aB.aI i c) A8⟩,λb a=>?_,s⟩;rcases j with e|e
 .rw[e];exact f b a
 .rw[e];intro v;have:=(d.1 b a).2;simp only[Ql] at v;omega
theorem Oth.JW{base:Nat}{t:Xq}(h:Oth w1 base va vc cs t)(i:w1.ownsRow base 187 2 vc n xs)(c:w1.grownBy w2 vc.ownBlock)(j:v'.ownBlock=vc.ownBlock\/v'.ownBlock=some w1.heap.size):Oth w2 base va v' cs t:=by
 have d:=h.1.ET;obtain⟨⟨k,l,m,p,rfl,q,r⟩,s,f⟩:=h;refine⟨⟨k,l,m,p,rfl,aY q (aB.aI i c) A8,l_ r λb a=>c.block b (d.2 b a).2 λe=>f b a e.symm⟩,s,λb a=>?_⟩;rcases j with e|e
 .rw[e];exact f b a
 .rw[e];intro v;have:=(d.2 b a).2;simp only[Ql] at v;omega
structure eX (M:Nat)(w wr:QX)(rb ob sb:Nat)(a:QW)(cap:Nat)(bs:List UInt8)(p:Nat)(cost:Int)(v:QY)(L:List Xq)(xs:List QY)(k:Nat)(va vc:QY)(s:Xq):Prop where
 st:gM M w wr rb sb a cap bs p va vc s
 obl:w.heap.size<=ob
 row:aH wr ob 62 2
 c0:wr.cell? ⟨ob,0,none⟩=some (.b cost)
 c1:wr.cell? ⟨ob,1,none⟩=some v
 own:wr.ownsRow w.heap.size 146 8 v L.length xs
 sbn:v.ownBlock≠some sb
 len:xs.length=L.length*8
 kl:k<L.length
 oth:∀i,i<L.length->i≠k->Oth wr w.heap.size va vc (mh xs i) (L.getD i Xq.zero)
 tiny:∀s∈L,s.TinyN M
theorem aH.jM{b:Nat}(h:aH w b t n)(k:aB u w w')(e:t≠u):aH w' b t n/\∀o,w'.cell? ⟨b,o,none⟩=w.cell? ⟨b,o,none⟩:=by
 obtain⟨a,c,f⟩:=h;have d:=k _ a _ _ e c;exact⟨⟨a,d,f⟩,λo=>PO (w:=w) (d.trans c.symm)⟩
variable {M k ob:Nat}
theorem eX.drawn{cost:Int}(h:eX M w wr rb ob sb a cap bs p cost v L xs k va vc s)(e:Rd w' rb a cap bs p')(d:Xj rb (rb+1) wr w'):eX M w w' rb ob sb a cap bs p' cost v L xs k va vc s:=by
 have b:=d.sameKind h.st.rd;have c:=h.row.jM b A8;exact⟨h.st.drawn e d,h.obl,c.1,(c.2 0).trans h.c0,(c.2 1).trans h.c1,aY h.own b A8,h.sbn,h.len,h.kl,λi f j=>(h.oth i f j).same b A8 A8,h.tiny⟩
theorem eX.kept{cost:Int}(h:eX M w wr rb ob sb a cap bs p cost v L xs k va vc s)(c:K_ wr w'):eX M w w' rb ob sb a cap bs p cost v L xs k va vc s:=h.drawn (h.st.rd.kept c) (.ak c)
theorem eX.field{cost:Int}{c:Xq}(h:eX M w wr rb ob sb a cap bs p cost v L xs k va vc s){x:QY}(f:dJ (wr.setCell ⟨sb,o,none⟩ x) sb va vc c)(i:c.asks=s.asks)(j:c.cases=s.cases)(l:c.TinyN M):eX M w (wr.setCell ⟨sb,o,none⟩ x) rb ob sb a cap bs p cost v L xs k va vc c:=by
 have e:=h.st.box.row.same (o:=o) x;have d:=h.row.jM e A8;exact⟨h.st.field f i j l,h.obl,d.1,(d.2 0).trans h.c0,(d.2 1).trans h.c1,l_ h.own (λb m=>Below.heap_setCell _ _ _ _ λn=>h.sbn (by rw[m,n])),h.sbn,h.len,h.kl,λq r t=>(h.oth q r t).same e A8 A8,h.tiny⟩
theorem eX.qK{cost:Int}{x:QV}(h:eX M w wr rb ob sb a cap bs p cost v L xs k va vc s)(j:K_ wr w1)(m:w2.ownsRow w.heap.size 9 1 v' (s.asks.length+1) (s.asks.map Value.string++[.string x]))(d:w1.grownBy w2 va.ownBlock)(n:v'.ownBlock=va.ownBlock\/v'.ownBlock=some w1.heap.size)(q:s.asks.length+1<=M)(r:x.size<=300):eX M w (w2.setCell ⟨sb,0,none⟩ v') rb ob sb a cap bs p cost v L xs k v' vc {s with asks:=s.asks++[x]}:=by
 have c:=h.kept j;have e:aB 9 w1 w2:=aB.aI c.st.asks d;have t:=c.st.box.same e A8;have l:=t.row.same (o:=0) v';have f:=c.row.jM e A8;have i:=f.1.jM l A8;exact⟨h.st.qK j m d q r,h.obl,i.1,(i.2 0).trans ((f.2 0).trans c.c0),(i.2 1).trans ((f.2 1).trans c.c1),l_ (aY c.own e A8) (λb y=>Below.heap_setCell _ _ _ _ λz=>h.sbn (by rw[y,z])),h.sbn,h.len,h.kl,
  λA B C=>((c.oth A B C).MK c.st.asks d n).same l A8 A8,h.tiny⟩
theorem eX.uj{cost:Int}{x:bQ}(h:eX M w wr rb ob sb a cap bs p cost v L xs k va vc s)(j:K_ wr w1)(m:w2.ownsRow w.heap.size 187 2 v' (s.cases.length+1) (bv s.cases++x.cells))(d:w1.grownBy w2 vc.ownBlock)(n:v'.ownBlock=vc.ownBlock\/v'.ownBlock=some w1.heap.size)(q:s.cases.length+1<=M)(r:x.Tiny):eX M w (w2.setCell ⟨sb,2,none⟩ v') rb ob sb a cap bs p cost v L xs k va v' {s with cases:=s.cases++[x]}:=by
 have c:=h.kept j;have e:aB 187 w1 w2:=aB.aI c.st.cases d;have t:=c.st.box.same e A8;have l:=t.row.same (o:=2) v';have f:=c.row.jM e A8;have i:=f.1.jM l A8;exact⟨h.st.uj j m d q r,h.obl,i.1,(i.2 0).trans ((f.2 0).trans c.c0),(i.2 1).trans ((f.2 1).trans c.c1),l_ (aY c.own e A8) (λb y=>Below.heap_setCell _ _ _ _ λz=>h.sbn (by rw[y,z])),h.sbn,h.len,h.kl,
  λA B C=>((c.oth A B C).JW c.st.cases d n).same l A8 A8,h.tiny⟩
theorem eX.cost{cost:Int}(h:eX M w wr rb ob sb a cap bs p cost v L xs k va vc s):eX M w (wr.setCell ⟨ob,0,none⟩ (.b x)) rb ob sb a cap bs p x v L xs k va vc s:=by
 have b:=h.row.same (o:=0) (.b x);have c:Below w.heap.size wr (wr.setCell ⟨ob,0,none⟩ (.b x)):=(Below.refl _ _).setCell h.obl _;obtain⟨l,d⟩:=h.st.rd0;have e:gM M w (wr.setCell ⟨ob,0,none⟩ (.b x)) rb sb a cap bs p va vc s:=⟨h.st.rd.below d c h.st.kb.size,h.st.rd0,h.st.sbl,h.st.kb.below c,h.st.box.same b A8,aY h.st.asks b A8,aY h.st.cases b A8,h.st.tiny⟩;exact⟨e,h.obl,h.row.set _,bB h.row.row A7 _,(Xk A7 _).trans h.c1,aY h.own b A8,h.sbn,h.len,h.kl,λi f j=>(h.oth i f j).same b A8 A8,h.tiny⟩
theorem aH.setCells{g:Nat}:∀(vs:List QY)(o:Nat){w:QX},aH w g t n->aH (w.setCells g o vs) g t n/\aB t w (w.setCells g o vs)
 |[],_,_,h=>⟨h,aB.refl _ _⟩
 |v :: r,o,_,h=>by
  rw[World.setCells];have:=aH.setCells r (o+1) (h.set (o:=o) v);exact⟨this.1,(h.same (o:=o) v).trans this.2⟩
theorem Below.setCells'{B g:Nat}(c:B<=g):∀(vs:List QY)(o:Nat){a w:QX},Below B a w->Below B a (w.setCells g o vs)
 |[],_,_,_,h=>h
 |v :: r,o,_,_,h=>by
  rw[World.setCells];exact Below.setCells' c r (o+1) (h.setCell (p:=⟨g,o,none⟩) c v)
structure vR (M:Nat)(w wr:QX)(rb ob:Nat)(a:QW)(cap:Nat)(bs:List UInt8)(p:Nat)(cost:Int)(v:QY)(L:List Xq):Prop where
 rd:Rd wr rb a cap bs p
 kb:Xj rb (rb+1) w wr
 row:aH wr ob 62 2
 c0:wr.cell? ⟨ob,0,none⟩=some (.b cost)
 c1:wr.cell? ⟨ob,1,none⟩=some v
 stw:StW wr v L
 tiny:∀s∈L,s.TinyN M
theorem eX.store{cost:Int}{g b:Nat}(h:eX M w wr rb ob sb a cap bs p cost (.c g L.length b) L xs k (.slice aa s.asks.length ca) (.slice ac s.cases.length cc) s):
  vR M w (wr.setCells g (k*8) (s.cells aa ca ac cc)) rb ob a cap bs p cost (.c g L.length b) (L.set k s):=by
 have G:=h.kl;have H:=h.len;rcases h.own.2 with⟨e,_⟩|⟨I,J,t,e,v,x,y,_,z,_⟩
 .simp at e
 simp only[Qm,Ql,QS,and_true,true_and] at e;obtain⟨rfl,rfl⟩:=e;have m:aH wr g 146 (b*8):=⟨t,x,z⟩;have c:=aH.setCells (s.cells aa ca ac cc) (k*8) m;have d:=h.row.jM c.2 A8;have n:Below w.heap.size wr (wr.setCells g (k*8) (s.cells aa ca ac cc)):=Below.setCells' v _ _ (Below.refl _ _);obtain⟨K,A⟩:=h.st.rd0;obtain⟨q,r,_⟩:=c.1;refine⟨h.st.rd.below A n h.st.kb.size,h.st.kb.below n,d.1,(d.2 0).trans h.c0,(d.2 1).trans h.c1,⟨some ⟨g,0,none⟩,b,by rw[QE],by rw[QE];exact y,λi f=>?_⟩,λB C=>?_⟩
 .rw[QE] at f;by_cases e:i=k
  .subst e;refine⟨g,0,q,_,s.cells aa ca ac cc,rfl,r,?_,?_,?_⟩
   .rw[Qb];exact PD wr g (i*8) (s.cells aa ca ac cc) (m.row.there (by show i*8+8<=b*8;omega))
   .have j:(L.set i s).getD i Xq.zero=s:=by simp[List.getD,f]
    rw[j];exact (jH.step ⟨aa,ca,ac,cc,rfl,h.st.asks,h.st.cases⟩).same c.2 A8 A8
   .exact jH.pM ⟨aa,ca,ac,cc,rfl,h.st.asks,h.st.cases⟩
  .have l:=(h.oth i f e).1;have D:(mh xs i).length=8:=by obtain⟨_,_,_,_,E,_⟩:=l;rw[E];rfl
   refine⟨g,0,q,_,mh xs i,rfl,r,?_,?_,l.pM⟩
   .refine PR (qQ h.own i) g (k*8) _ (.inr ?_);show 0+i*8+(mh xs i).length<=k*8\/k*8+8<=0+i*8;rw[D];omega
   .have j:(L.set k s).getD i Xq.zero=L.getD i Xq.zero:=by simp[List.getD,Ne.symm e]
    rw[j];exact l.step.same c.2 A8 A8
 .rcases List.mem_or_eq_of_mem_set C with F|rfl
  .exact h.tiny B F
  .exact h.st.tiny
theorem vR.ends{b:Nat}{t:Nat}{cost:Int}(h:vR M A0 wr rb ob a cap bs p' cost v L)(c:aH wr b 62 2)(d:w.heap.size<=b)(k0:K_ w A0){l:Nat}(m:Rd w rb a cap bs l)(n:e=.returned (.agg #[.b cost,v]))(q:p<=p')(h2:p'<=p+t)(r:L.length<=21)(s: -1000<=cost/\cost<=1000):NP M w ((wr.setCell ⟨b,0,none⟩ (.b cost)).setCell ⟨b,1,none⟩ v) rb a cap bs p t e:=by
 have x:=c.same (o:=0) (.b cost);have y:=(c.set (o:=0) (.b cost)).same (o:=1) v;have z:=x.trans y;have f:Below w.heap.size wr ((wr.setCell ⟨b,0,none⟩ (.b cost)).setCell ⟨b,1,none⟩ v):=((Below.refl _ _).setCell (p:=⟨b,0,none⟩) d _).setCell (p:=⟨b,1,none⟩) d _;have i:Xj rb (rb+1) w wr:=⟨h.kb.os.trans k0.os,h.kb.tape.trans k0.tape,h.kb.output.trans k0.output,Pz k0.size h.kb.size,λj k A=>(h.kb.block j (Px k k0.size) A).trans (k0.block j k)⟩;exact⟨cost,v,L,p',n,q,h2,r,s,h.tiny,h.stw.same z A8 A8 A8,h.rd.below m f i.size,i.below f⟩
theorem eX.made{b:QX}{cost:Int}(y:Rd b rb a cap bs p)(z:Rd A0 rb a cap bs p0)(q:Xj rb (rb+1) A0 b)(A:A0.heap.size<=ob)(h:aH b ob 62 2)(B:b.cell? ⟨ob,0,none⟩=some (.b cost))(c1:b.cell? ⟨ob,1,none⟩=some v)(own:b.ownsRow A0.heap.size 146 8 v L.length xs)(d:fw b A0.heap.size xs L)(e:k<L.length)(r:∀s∈L,s.TinyN M)(t:s=L.getD k Xq.zero)(i:mh xs k=s.cells aa ca ac cc):
  eX M A0 (b.alloc (.cells #[.slice aa s.asks.length ca,.b s.on,.slice ac s.cases.length cc,.b s.els,.b s.fall,.bool s.fin,.bool s.bad,.string s.give] 146)) rb ob b.heap.size a cap bs p cost v L xs k (.slice aa s.asks.length ca) (.slice ac s.cases.length cc) s:=by
 have c:K_ b (b.alloc (.cells #[.slice aa s.asks.length ca,.b s.on,.slice ac s.cases.length cc,.b s.els,.b s.fall,.bool s.fin,.bool s.bad,.string s.give] 146)):=ai _ _;have C:s.TinyN M:=r s (by rw[t];simp[List.getD,e]);have w:=d.each k e;rw[i,<-t] at w;obtain⟨F,G,H,I,f,D,E⟩:=w;simp only[Xq.cells,List.cons.injEq,Qm,true_and,and_true] at f;obtain⟨⟨rfl,rfl⟩,rfl,rfl⟩:=f;refine⟨⟨y.kept c,⟨p0,z⟩,q.size,q.gJ c,dJ.copied b s aa ca ac cc,ay D c,ay E c,C⟩,A,h.kept c,(c.cell h.lt).trans B,(c.cell h.lt).trans c1,ay own c,λf=>?_,d.len,e,λj l x=>⟨(d.each j l).same (u:=82) (aB.ak c) A8 A8,λm n=>?_,λm n=>?_⟩,r⟩
 .have:=(own.lt _ f).2;omega
 .have:=(d.apart j k l e x).1 m n;rw[i] at this;exact this
 .have:=(d.apart j k l e x).2 m n;rw[i] at this;exact this
theorem vR.made{cost:Int}(c:Rd wr rb a cap bs p)(d:Xj rb (rb+1) A0 wr)(e:aH wr ob 62 2)(f:wr.cell? ⟨ob,0,none⟩=some (.b cost))(c1:wr.cell? ⟨ob,1,none⟩=some v)(own:wr.ownsRow A0.heap.size 146 8 v L.length xs)(b:fw wr A0.heap.size xs L)(h:∀s∈L,s.TinyN M):vR M A0 wr rb ob a cap bs p cost v L:=
 ⟨c,d,e,f,c1,StW.gW own b.packed b.pM,h⟩
theorem wZ(cs:List Int)(k:Xj rb (rb+1) (w.alloc (.cells (cs.map (Value.int .i64)).toArray t)) w5)(d:rb<w.heap.size)(q:Nat)(a:q<cs.length)(b:∀c∈cs, -1000<=c/\c<=1000):∃c,w5.cell? ⟨w.heap.size,q,none⟩=some (.b c)/\ -1000<=c/\c<=1000:=by
 refine⟨cs[q],?_,b _ (PL a)⟩;rw[k.cell A9 A7,World.cell?_alloc_mark];simp[a]
theorem in64_wrap64(x:Int):In64 (wrap64 x):=by
 unfold In64 wrap64;omega
theorem wL(w:QX)(s:QV)(m:Int)(n:Nat)(a:m= (n:Int))(b:n<=1000)(c:s.size<=100):
  Calls prog 110 #[.string s,.b m] w λe w'=>(∃t:QV,e=.returned (.string t)/\t.size<=n*s.size)/\w'=w:=by
 rw[a];exact Er w s n b c
theorem yZ(w:QX)(t:TypeId)(cs:List Int)(q:Nat)(a:q<cs.length)(b:∀c∈cs, -1000<=c/\c<=1000):∃c,(w.alloc (.cells (cs.map (Value.int .i64)).toArray t)).cell? ⟨w.heap.size,q,none⟩=some (.b c)/\ -1000<=c/\c<=1000:=by
 refine⟨cs[q],?_,b _ (PL a)⟩;rw[World.cell?_alloc_mark];simp[a]
theorem xu{g H:Nat}(h:v.ownBlock=some g\/g=H):(Value.slice (some ⟨g,0,none⟩) n cap).ownBlock=v.ownBlock\/(Value.slice (some ⟨g,0,none⟩) n cap).ownBlock=some H:=by
 rcases h with h|rfl
 .exact .inl h.symm
 .exact .inr rfl
theorem CF(cs:List QV)(k:Xj rb (rb+1) (w.alloc (.cells (cs.map Value.string).toArray t)) w5)(d:rb<w.heap.size)(q:Nat)(a:q<cs.length)(b:∀c∈cs,c.size<=300):∃c,w5.cell? ⟨w.heap.size,q,none⟩=some (.string c)/\c.size<=300:=by
 refine⟨cs[q],?_,b _ (PL a)⟩;rw[k.cell A9 A7,World.cell?_alloc_mark];simp[a]
theorem Ej(w:QX)(t:TypeId)(cs:List QV)(q:Nat)(a:q<cs.length)(b:∀c∈cs,c.size<=300):∃c,(w.alloc (.cells (cs.map Value.string).toArray t)).cell? ⟨w.heap.size,q,none⟩=some (.string c)/\c.size<=300:=by
 refine⟨cs[q],?_,b _ (PL a)⟩;rw[World.cell?_alloc_mark];simp[a]
theorem Ni(cs:List Int)(k:Xj rb (rb+1) (w.alloc (.cells (cs.map (Value.int .i64)).toArray t)) w5)(b:rb<w.heap.size)(q:Nat)(a:q<cs.length):∃c∈cs,w5.cell? ⟨w.heap.size,q,none⟩=some (.b c):=by
 refine⟨cs[q],PL a,?_⟩;rw[k.cell A9 A7,World.cell?_alloc_mark];simp[a]
def oZ(w:QX)(a:QW)(l:List QV):Prop:=
 l=[]\/∃b o cur fr,a=some ⟨b,o,none⟩/\w.heap[b]? =some (Obj.cells cur 9 fr)/\∀i,i<l.length->w.cell? ⟨b,o+i,none⟩=some (.string (l.getD i ByteArray.empty))
theorem oZ.same{l:List QV}(h:oZ w a l)(k:aB u w w')(i:9≠u):oZ w' a l:=by
 rcases h with h|⟨b,o,c,d,j,e,m⟩
 .exact .inl h
 .have f:=k b c _ d i e;exact .inr ⟨b,o,c,d,j,f,λn p=>by rw[PO (w:=w) (f.trans e.symm)];exact m n p⟩
theorem oZ.strs{l:List QV}(h:oZ w a l):Strs w a l:=by
 rcases h with rfl|⟨c,o,j,k,d,e,f⟩
 .intro i b;simp at b
 .exact λi b=>⟨c,o,d,aP e,f i b⟩
theorem eY.g{l:List QV}(h:eY w 9 a l):oZ w a l:=by
 rcases h with h|⟨b,c,d,e,f,i⟩
 .exact .inl h
 .exact .inr ⟨b,0,c,d,e,f,λj k=>by rw[Qb];exact i j k⟩
theorem oZ.tail{b:Nat}{l:List QV}{c:Array QY}{d:Nat×Nat}(e:w.heap[b]? =some (Obj.cells c 9 d))(f:∀i,i<l.length->w.cell? ⟨b,o+i,none⟩=some (.string (l.getD i ByteArray.empty)))(j:l.drop n≠[]->a=some ⟨b,o+n,none⟩):oZ w a (l.drop n):=by
 by_cases h:l.drop n=[]
 .exact .inl h
 .refine .inr ⟨b,o+n,c,d,j h,e,λi k=>?_⟩;rw[List.length_drop] at k;have:=f (n+i) A7;rw[Nat.add_assoc,this];simp[List.getD,List.getElem?_drop]
def GStep(w:QX)(cs:List QY)(s:Xq):Prop:=∃aa ca ac cc,cs=s.cells aa ca ac cc/\oZ w aa s.asks/\qi w 187 ac s.cases/\s.asks.length<=ca
theorem GStep.same(h:GStep w cs s)(k:aB u w w')(a:9≠u)(h2:187≠u):GStep w' cs s:=by
 obtain⟨b,c,d,e,f,i,j,l⟩:=h;exact⟨b,c,d,e,f,i.same k a,j.same k h2,l⟩
theorem mU.g(h:mU w 9 187 cs s):GStep w cs s:=by
 obtain⟨a,b,c,d,e,f,i,j⟩:=h;exact⟨a,b,c,d,e,f.g,i,j⟩
def dI(w:QX)(v:QY)(L:List Xq):Prop:=
 ∃a cap,v=.slice a L.length cap/\L.length<=cap/\∀i,i<L.length->∃b o cur fr cs,a=some ⟨b,o,none⟩/\w.heap[b]? =some (Obj.cells cur 146 fr)/\w.rangeAt b (o+i*8) cs/\GStep w cs (L.getD i Xq.zero)/\lV cs
theorem dI.same(h:dI w v L)(k:aB u w w')(i:146≠u)(l:9≠u)(h2:187≠u):dI w' v L:=by
 obtain⟨a,m,n,p,g⟩:=h;refine⟨a,m,n,p,λq r=>?_⟩;obtain⟨b,o,c,d,s,t,e,x,y,z⟩:=g q r;have f:=k b c _ d i e;exact⟨b,o,c,d,s,t,f,λj A B=>by rw[PO (w:=w) (f.trans e.symm)];exact x j A B,y.same k l h2,z⟩
theorem StW.g(h:StW w v L):dI w v L:=by
 obtain⟨a,c,e,d,g⟩:=h;refine⟨a,c,e,d,λi f=>?_⟩;obtain⟨b,o,j,k,l,m,n,p,q,r⟩:=g i f;exact⟨b,o,j,k,l,m,n,p,q.g,r⟩
theorem dI.GJ(h:dI w v L):∃a cap,v=.slice a L.length cap/\L.length<=cap/\lT w a L:=by
 obtain⟨a,cap,e,d,g⟩:=h;refine⟨a,cap,e,d,λi f=>?_⟩;obtain⟨j,o,x,y,z,k,l,m,⟨n,p,q,r,rfl,s,t,A⟩,c⟩:=g i f;refine⟨j,o,n,p,q,r,k,aP l,m,s.strs,t.cases,λb=>?_,λb=>?_⟩
 .subst b;exact c _ _ (by simp[Xq.cells])
 .subst b;exact c _ _ (by simp[Xq.cells])
theorem dI.steps(h:dI w (.slice a n cap) L):Steps w a L:=by
 obtain⟨t,v,e,x,g⟩:=h;simp only[Qm] at e;obtain⟨rfl,rfl,rfl⟩:=e;intro i c;obtain⟨b,o,y,z,A,d,f,j,⟨k,l,m,p,rfl,q,r,s⟩,B⟩:=g i c;exact⟨b,o,_,d,aP f,j,k,l,m,p,rfl,q.strs,r.cases,s⟩
theorem dI.slice(h:dI w v L):∃a cap,v=.slice a L.length cap:=let ⟨a,cap,e,_⟩:=h;⟨a,cap,e⟩
def dG(w:QX)(xs:List QY)(l:List Qz):Prop:=
 xs.length=l.length*3/\∀i,i<l.length->∃v,(xs.drop (i*3)).take 3=[.string (l.getD i Qz.zero).name,.b (l.getD i Qz.zero).cost,v]/\dI w v (l.getD i Qz.zero).steps
theorem dG.nil(w:QX):dG w [] []:=⟨rfl,λi a=>by simp at a⟩
theorem dG.same{l:List Qz}(h:dG w xs l)(k:aB u w w')(a:146≠u)(b:9≠u)(h2:187≠u):dG w' xs l:=
 ⟨h.1,λi c=>by obtain⟨v,d,g⟩:=h.2 i c;exact⟨v,d,g.same k a b h2⟩⟩
theorem dG.snoc{l:List Qz}{d:Qz}(h:dG w xs l)(f:dI w v d.steps):dG w (xs++[.string d.name,.b d.cost,v]) (l++[d]):=by
 refine⟨by simp[h.1];omega,λi c=>?_⟩;rw[Qi] at c;simp only[Qn,List.length_nil] at c;by_cases e:i<l.length
 .have a:(l++[d]).getD i Qz.zero=l.getD i Qz.zero:=by simp[List.getD,Qx e]
  have b:((xs++[.string d.name,.b d.cost,v]).drop (i*3)).take 3= (xs.drop (i*3)).take 3:=by
   rw[List.drop_append_of_le_length (by rw[h.1];omega),List.take_append_of_le_length (by rw[List.length_drop,h.1];omega)]
  rw[a,b];exact h.2 i e
 .obtain rfl:i=l.length:=A7;have a:(l++[d]).getD l.length Qz.zero=d:=H7;have b:((xs++[.string d.name,.b d.cost,v]).drop (l.length*3)).take 3=[.string d.name,.b d.cost,v]:=by
   rw[<-h.1,List.drop_left]
   rfl
  rw[a,b];exact⟨v,rfl,f⟩
def uB(w:QX)(a:QW)(l:List Qz):Prop:=
 ∀i,i<l.length->∃b o sa sc,a=some ⟨b,o,none⟩/\b<w.heap.size/\w.rangeAt b (o+i*3) ((l.getD i Qz.zero).cells sa sc)/\lT w sa (l.getD i Qz.zero).steps
theorem uB.kept{l:List Qz}(h:uB w a l)(k:K_ w w'):uB w' a l:=by
 intro i c;obtain⟨d,o,e,f,j,b,m,n⟩:=h i c;exact⟨d,o,e,f,j,Px b k.size,k.range b m,n.kept k⟩
def bM(w:QX)(v:QY)(l:List Qz):Prop:=
 ∃a cap,v=.slice a l.length cap/\l.length<=cap/\((a=none->cap=0)/\∀ad,a=some ad->ad.spot=none)/\∀i,i<l.length->∃b o cur fr u,a=some ⟨b,o,none⟩/\w.heap[b]? =some (Obj.cells cur 64 fr)/\
  w.rangeAt b (o+i*3) [.string (l.getD i Qz.zero).name,.b (l.getD i Qz.zero).cost,u]/\dI w u (l.getD i Qz.zero).steps
theorem bM.same{l:List Qz}(h:bM w v l)(k:aB u w w')(i:64≠u)(j:146≠u)(m:9≠u)(h2:187≠u):bM w' v l:=by
 obtain⟨a,n,p,q,r,g⟩:=h;refine⟨a,n,p,q,r,λs t=>?_⟩;obtain⟨b,o,c,d,x,y,e,z,A⟩:=g s t;have f:=k b c _ d i e;exact⟨b,o,c,d,x,y,f,λB C D=>by rw[PO (w:=w) (f.trans e.symm)];exact z B C D,A.same k j m h2⟩
theorem bM.kept{l:List Qz}(h:bM w v l)(k:K_ w w'):bM w' v l:=h.same (u:=25) (.ak k) A8 A8 A8 A8
theorem bM.slice{l:List Qz}(h:bM w v l):∃a cap,v=.slice a l.length cap/\l.length<=cap/\((a=none->cap=0)/\∀ad,a=some ad->ad.spot=none):=let ⟨a,cap,e,h1,h2,_⟩:=h;⟨a,cap,e,h1,h2⟩
theorem bM.MM{l:List Qz}(h:bM w (.slice a n cap) l):uB w a l:=by
 obtain⟨r,s,e,t,v,g⟩:=h;simp only[Qm] at e;obtain⟨rfl,rfl,rfl⟩:=e;intro i c;obtain⟨b,o,x,y,u,d,f,j,k⟩:=g i c;obtain⟨m,p,rfl,_,q⟩:=k.GJ;exact⟨b,o,m,p,d,aP f,j,q⟩
theorem bM.nodes{l:List Qz}(h:bM w (.slice a n cap) l):dS w a l:=by
 obtain⟨q,r,e,s,t,g⟩:=h;simp only[Qm] at e;obtain⟨rfl,rfl,rfl⟩:=e;intro i d;obtain⟨b,o,v,x,u,f,j,k,c⟩:=g i d;obtain⟨m,p,rfl⟩:=c.slice;exact⟨b,o,_,f,aP j,k,m,p,rfl,c.steps⟩
theorem bM.gW{base:Nat}{l:List Qz}(a:w.ownsRow base 64 3 v l.length xs)(f:dG w xs l):bM w v l:=by
 rcases a.2 with⟨rfl,h⟩|⟨g,k,m,rfl,s,n,p,_,_,_⟩
 .exact⟨none,0,by rw[h],A7,⟨λ_=>rfl,λ_ e=>by cases e⟩,λi b=>A7⟩
 .refine⟨_,k,rfl,p,⟨λe=>by simp at e,λ_ e=>by cases e;rfl⟩,λi b=>?_⟩;obtain⟨u,e,q⟩:=f.2 i b;refine⟨g,0,m,_,u,rfl,n,λj x c=>?_,q⟩;have r:j<3:=by have:=(PG.1 c).1;simpa using this
  have d:((xs.drop (i*3)).take 3)[j]? =some x:=by rw[e];exact c
  rw[List.getElem?_take,QI r,List.getElem?_drop] at d;have:=a.cells (g:=g) rfl _ _ d;rw[Qo] at this;rw[Qb] at this⊢;exact this
theorem bM.nil(w:QX):bM w J6 []:=⟨none,0,rfl,Pw _,⟨λ_=>rfl,λ_ e=>by cases e⟩,λi b=>by simp at b⟩
structure Qz.TinyN (m:Nat)(d:Qz):Prop where
 name:d.name.size<=300
 cost: -1000<=d.cost/\d.cost<=1000
 steps:d.steps.length<=21
 each:∀s∈d.steps,s.TinyN m
theorem Qz.TinyN.fits{d:Qz}(h:d.TinyN m)(a:m<=1000):d.Fits:=by
 have c:=h.name;have e:=h.steps;exact⟨D6,oM h.cost,D6,λs b=>(h.each s b).fits a⟩
theorem Qz.TinyN.mono{d:Qz}(h:d.TinyN m)(b:m<=n):d.TinyN n:=⟨h.name,h.cost,h.steps,λs e=>(h.each s e).mono b⟩
def mR(lo:Nat)(v:QY)(L:List Qz):Prop:=0<L.length->∀g n c,v=.slice (some g) n c->lo<=g.block
theorem mR.mono{a:Nat}{L:List Qz}(h:mR lo v L)(c:a<=lo):mR a v L:=λd g n f e=>Pz c (h d g n f e)
theorem mR.gW{base:Nat}{L:List Qz}(h:w.ownsRow base 64 3 v n xs):mR base v L:=λ_ g n c e=>(h.lt g.block (by rw[e];rfl)).1
def jI(M N:Nat)(w w':QX)(rb:Nat)(a:QW)(cap:Nat)(bs:List UInt8)(p t:Nat)(e:Ending):Prop:=
 ∃(v:QY)(L:List Qz)(p':Nat),e=.returned (.agg #[v])/\p<=p'/\p'<=p+t/\L.length<=N/\(∀d∈L,d.TinyN M)/\bM w' v L/\Rd w' rb a cap bs p'/\Xj rb (rb+1) w w'/\mR w.heap.size v L
theorem Tryz.nV :(prog.info? 64).map (λi=>(i.zero,i.size,i.bytes))=some (some (.agg #[.string ⟨#[]⟩,.b 0,J6]),3,48):=C9
theorem Tryz.iI :(prog.info? 25).map (·.size)=some 1:=C9
structure gK (m:Nat)(w wr:QX)(rb wb:Nat)(a:QW)(cap:Nat)(bs:List UInt8)(p:Nat)(v:QY)(L:List Qz)(xs:List QY):Prop where
 rd:Rd wr rb a cap bs p
 rd0:∃p0,Rd w rb a cap bs p0
 wbl:w.heap.size<=wb
 kb:Xj rb (rb+1) w wr
 row:aH wr wb 25 1
 c0:wr.cell? ⟨wb,0,none⟩=some v
 own:wr.ownsRow w.heap.size 64 3 v L.length xs
 pack:dG wr xs L
 tiny:∀d∈L,d.TinyN m
variable {wb:Nat}
theorem gK.rbl{L:List Qz}(h:gK mN w wr rb wb a cap bs p v L xs):rb<w.heap.size:=let ⟨_,h0⟩:=h.rd0;h0.row.lt
theorem gK.drawn{L:List Qz}(h:gK mN w wr rb wb a cap bs p v L xs)(d:Rd w' rb a cap bs p')(k:Xj rb (rb+1) wr w'):gK mN w w' rb wb a cap bs p' v L xs:=by
 have c:=k.sameKind h.rd;have:=h.rbl;have:=h.wbl;exact⟨d,h.rd0,h.wbl,h.kb.trans k,h.row.but k A7,(k.cell h.row.lt A7).trans h.c0,aY h.own c A8,h.pack.same c A8 A8 A8,h.tiny⟩
theorem gK.kept{L:List Qz}(h:gK mN w wr rb wb a cap bs p v L xs)(k:K_ wr w'):gK mN w w' rb wb a cap bs p v L xs:=h.drawn (h.rd.kept k) (.ak k)
theorem gK.made(c:Rd w rb a cap bs p0)(h:Rd w1 rb a cap bs p)(k:Xj rb (rb+1) w w1):
  gK mN w (w1.alloc (.cells #[J6] 25)) rb w1.heap.size a cap bs p J6 [] []:=by
 have e:=X_ w1 #[J6] 25;have b:K_ w1 (w1.alloc (.cells #[J6] 25)):=ai _ _;exact⟨h.kept b,⟨p0,c⟩,k.size,k.gJ b,aH.made w1 _ _,e 0 _ rfl,Qt _ _ _ _,dG.nil _,λs f=>by simp at f⟩
theorem gK.gB{L:List Qz}(h:gK mN w wr rb wb a cap bs p v L xs)(f:K_ wr w1)(i:w1.grownBy w2 v.ownBlock):w2.cell? ⟨wb,0,none⟩=some v/\aH w2 wb 25 1:=by
 have b:=h.kept f;have j:aB 64 w1 w2:=aB.aI b.own i;obtain⟨c,d,k⟩:=b.row;have e:=j wb c _ _ A8 d;exact⟨by rw[PO (w:=w1) (e.trans d.symm)];exact b.c0,c,e,k⟩
theorem gK.push{u:QY}{L:List Qz}{d:Qz}(h:gK mN w wr rb wb a cap bs p v L xs)(j:K_ wr w1)(m:dI w1 u d.steps)(n:d.TinyN mN)(q:w2.ownsRow w.heap.size 64 3 v' (L.length+1) (xs++[.string d.name,.b d.cost,u]))(e:w1.grownBy w2 v.ownBlock):gK mN w (w2.setCell ⟨wb,0,none⟩ v') rb wb a cap bs p v' (L++[d]) (xs++[.string d.name,.b d.cost,u]):=by
 have b:=h.kept j;have f:aB 64 w1 w2:=aB.aI b.own e;have i:aH w2 wb 25 1:=(h.gB j e).2;have k:=i.same (o:=0) v';have l:Below w.heap.size w1 (w2.setCell ⟨wb,0,none⟩ v'):=((Below.refl _ _).grown e b.kb.size λr f=>(b.own.lt r f).1).setCell h.wbl v';obtain⟨t,s⟩:=h.rd0;refine⟨b.rd.below s l b.kb.size,h.rd0,h.wbl,b.kb.below l,i.set _,bB i.row A7 _,?_,?_,λy c=>?_⟩
 .have:=aY q k A8;simpa using this
 .exact ((b.pack.snoc m).same f A8 A8 A8).same k A8 A8 A8
 .simp only[PK,PI] at c;rcases c with c|rfl
  .exact h.tiny y c
  .exact n
theorem gK.web{L:List Qz}(h:gK mN w wr rb wb a cap bs p v L xs):bM wr v L:=bM.gW h.own h.pack
theorem og(w:QX)(n:QV)(c:Int)(u:QY):∀j x,([.string n,.b c,u]:List QY)[j]? =some x->(w.alloc (.cells #[.string n,.b c,u] 64)).cell? ((⟨w.heap.size,0,none⟩:Addr).add j)=some x:=λj x a=>by
 rw[Qo];exact X_ w #[.string n,.b c,u] 64 j x a
theorem oU(n:QV)(c:Int)(a:QW)(m k:Nat):∀u∈([.string n,.b c,.slice a m k]:List QY),u.oneCell'=true:=λu b=>by
 simp only[Qr,Qs,or_false] at b;rcases b with rfl|rfl|rfl<;>rfl
theorem Ca.g(h:Ca w v L):dI w v L:=by
 obtain⟨base,e,b,c,d⟩:=h;exact (StW.gW b c d).g
theorem gK.ends{N:Nat}{t:Nat}{L:List Qz}(h:gK M A0 w5 rb wb a cap bs p' v L xs){b:Nat}(j:aH w5 b 25 1)(k:w.heap.size<=b)(k0:K_ w A0){l:Nat}(m:Rd w rb a cap bs l)(n:e=.returned (.agg #[v]))(q:p<=p')(h2:p'<=p+t)(r:L.length<=N):jI M N w (w5.setCell ⟨b,0,none⟩ v) rb a cap bs p t e:=by
 have s:=j.same (o:=0) v;have c:Below w.heap.size w5 (w5.setCell ⟨b,0,none⟩ v):=(Below.refl _ _).setCell (p:=⟨b,0,none⟩) k _;have d:Xj rb (rb+1) w w5:=⟨h.kb.os.trans k0.os,h.kb.tape.trans k0.tape,h.kb.output.trans k0.output,Pz k0.size h.kb.size,λi f x=>(h.kb.block i (Px f k0.size) x).trans (k0.block i f)⟩;exact⟨v,L,p',n,q,h2,r,h.tiny,h.web.same s A8 A8 A8 A8,h.rd.below m c d.size,d.below c,(mR.gW h.own).mono k0.size⟩
theorem yS(w:QX)(rb:Nat)(a:QW)(cap:Nat)(bs:List UInt8)(p i n:Nat)(hR:Rd w rb a cap bs p)(hp:p<=800000)(hi:i<=100000)(hn:n<=100000)(B:bs.length<=2000):
  Calls prog 108 #[.h rb,.b (i:Int),.b (n:Int)] w λe w'=>su w w' rb a cap bs p 100 e:=by
 have k0:K_ w (w.alloc (.cells #[.b 0,J6] 62)):=ai _ _;have g5:Hid (Rd (w.alloc (.cells #[.b 0,J6] 62)) rb a cap bs p):=hR.kept k0;have g6:Hid (aH (w.alloc (.cells #[.b 0,J6] 62)) w.heap.size 62 2):=aH.made w _ _;have o4:=hR.row.lt;have k8:=Kz hR;go_enter func108,ntmps108
 go_wp2_with fail
 refine (aM _ rb a cap bs p _ 6 rfl g5.o A7 A7 B).mono ?_;rintro e w1 ⟨v1,rfl,k9,g7,g8⟩;have⟨g9,I⟩:=aJ g7 g8;clear g7 g8 hR;have J:=Kz (ASt.made g5.o g9.o I.o (1+(v1:Int)));go_wp2_with fail
 refine (aM _ rb a cap bs (p+1) _ 10 rfl J.o.rd A7 A7 B).mono ?_;rintro e C ⟨v2,rfl,l0,h0,h1⟩;have c:=Kz (J.o.drawn h0 h1);have r2:=c.o.row.row.at (i:=0) A7;obtain⟨⟨_,q0⟩,f0⟩:=r2;have l1:=c.o.row.lt;clear h0 h1;go_upto_if 20 with fail
 go_cut [7] from 21 to 21 λs7 D=>Ox (w.alloc (.cells #[.b 0,J6] 62)) w1.heap.size rb a cap bs p s7 D
 case first=>
  by_cases R:v2=0
  .have e8:((v2:Int) == 0)=true:=by simp[R]
   go_wp2
   go_meet
   exact⟨20,rfl,A7,c.o.cost⟩
  .have e8:((v2:Int) == 0)=false:=by simpa using R
   go_wp2
   go_meet
   exact⟨_,rfl,A7,c.o⟩
 case rest=>
  obtain⟨cost,rfl,d4,m⟩:=hcut;have j:=Kz m;clear m J c g9 I k9 l0 q0 f0 l1;go_wp2_with fail
  refine (aM _ rb a cap bs (p+2) _ 4 rfl j.o.rd A7 A7 B).mono ?_;rintro e w4 ⟨v4,rfl,l2,a9,b0⟩;have z:=Kz (j.o.drawn a9 b0);clear a9 b0 j;go_upto_region 5 with fail
  go_cut [31] from 25 to 30 λl3 D=>∃(E:Bool)(p':Nat),l3=.bool E/\p+3<=p'/\p'<=p+4/\ASt (w.alloc (.cells #[.b 0,J6] 62)) D rb w1.heap.size a cap bs p' cost J6 [] []
  case first=>
   by_cases R:i=0
   .have e8:((i:Int) == 0)=true:=by simp[R]
    clear R;go_wp2_with fail
    refine (aM _ rb a cap bs (p+3) _ 3 rfl z.o.rd A7 A7 B).mono ?_;rintro e w5 ⟨v5,rfl,o5,h2,h3⟩;have h:=Kz (z.o.drawn h2 h3);clear h2 h3;go_wp2
    go_meet
    exact⟨_,p+4,rfl,A7,A7,h.o⟩
   .have e8:((i:Int) == 0)=false:=by simpa using R
    go_wp2
    go_meet
    exact⟨_,p+3,rfl,A7,A7,z.o⟩
  case rest=>
   obtain⟨E,p5,rfl,l4,l5,m⟩:=hcut;have h:=Kz m;clear m z;go_upto_if 31 with fail
   go_cut [8] from 25 to 30 λs8 D=>Pb (w.alloc (.cells #[.b 0,J6] 62)) w1.heap.size rb a cap bs p s8 D
   case first=>
    cases E
    .go_wp2
     go_meet
     exact⟨v4,cost,p5,rfl,A7,d4,A7,A7,h.o⟩
    .go_wp2
     go_meet
     exact⟨0,cost,p5,rfl,A7,d4,A7,A7,h.o⟩
   case rest=>
    clear l4 l5 h d4 l2;obtain⟨S,cost,l6,rfl,o6,d4,l7,o7,m⟩:=hcut;have N:=Kz m;clear m;go_wp2
    go_loopg [9] S λg x wr=>∃(k:Nat)(p':Nat)(v:QY)(L:List Xq)(xs:List QY),x=.b (k:Int)/\k+g=S/\L.length=k/\p<=p'/\p'<=p+4+20*k/\ASt (w.alloc (.cells #[.b 0,J6] 62)) wr rb w1.heap.size a cap bs p' cost v L xs
    case atStart=>exact⟨0,l6,_,[],[],rfl,A7,rfl,l7,A7,N.o⟩
    case round=>
     clear N;obtain⟨k,p7,v,L,xs,rfl,hk,hL,o8,o9,m⟩:=hrel;obtain⟨t,rfl⟩:=aj wr;obtain⟨gO,rfl⟩:=aj gk;have⟨Z,e9⟩:=aJ m hL;clear m hL;by_cases l8:(k:Int)<1+(S:Int)-1
     .have f1:=Kz (SSt.made Z.o.rd (els:=(k:Int)+1) (fall:= -1) A7 A7);have zO:rb<t.heap.size:=Z.o.rd.row.lt;go_wp2_with fail
      refine (aM _ rb a cap bs p7 _ 4 rfl f1.o.rd A7 A7 B).mono ?_;rintro e w8 ⟨a5,rfl,hq,h4,h5⟩;have b1:=Kz (f1.o.drawn h4 h5);clear h4 h5;go_wp2
      go_loopg [11] a5 λg x wr=>∃(O:QY)(s:Xq)(p':Nat),x=.b (g:Int)/\g<=a5/\p<=p'/\p'+2*g<=p7+1+2*a5/\s.asks.length+g<=a5/\s.cases=[]/\SSt t wr rb t.heap.size a cap bs p' O J6 s
      case atStart=>exact⟨_,_,p7+1,rfl,Pw _,A7,A7,A9,rfl,b1.o⟩
      case round=>
       clear f1 b1;obtain⟨O,s,p8,rfl,h6,h7,h8,d5,b2,m⟩:=hrel;have⟨q,a0⟩:=aJ m b2;clear m b2;by_cases R:gk=0
       .have d6:¬(0:Int)<(gk:Int):=A7;obtain⟨P,Q,rfl⟩:=aG q.o.asks;obtain⟨wI,rfl⟩:=aj wr;have y0:=q.o.box.c0;have yz:=q.o.box.row.lt;have f2:s.asks.length<=20:=q.o.tiny.asks;obtain⟨H,hm⟩:=aj s.asks.length;rw[<-hm] at y0 d5 f2;have HM:=Kz hm;clear hm;go_upto_if 68 with fail
        go_cut [10,11] from 32 to 116 λb3 _ D=>∃(y:Xq)(O:QY)(p':Nat),b3=.h t.heap.size/\p<=p'/\p'<=p7+8/\y.cases=[]/\SSt t D rb t.heap.size a cap bs p' O J6 y
        case first=>
         by_cases p0:(0:Int)<(H:Int)
         .go_wp2_with fail
          refine (qD _ rb a cap bs p8 H q.o.rd A7 A7 B).mono ?_;rintro e f ⟨v9,rfl,p1,b4,b5⟩;have c:=Kz (q.o.drawn b4 b5);have z2:=c.o.box.row.lt;obtain⟨⟨_,p2⟩,p3⟩:=c.o.box.cell (o:=1) A7;clear b4 b5;go_wp2
          go_meet
          exact⟨{s with on:=(v9:Int)},_,p8+1,rfl,A7,A7,a0.o,c.o.on (x:=(v9:Int)) A7⟩
         .go_wp2
          go_meet
          exact⟨s,_,p8,rfl,A7,A7,a0.o,q.o⟩
        case rest=>
         clear q a0 y0 yz d5 f2 HM h7 h8 R d6 h6;obtain⟨s,O,p9,rfl,l9,m0,b2,m⟩:=hcut;have⟨q,a0⟩:=aJ m b2;clear m b2;go_wp2_with fail
         refine (aM _ rb a cap bs p9 _ 3 rfl q.o.rd A7 A7 B).mono ?_;rintro e p4 ⟨q2,rfl,p6,h9,i0⟩;have b1:=Kz (q.o.drawn h9 i0);clear h9 i0 q;go_wp2
         go_loopg [13] q2 λg x wr=>∃(vc:QY)(y:Xq)(p':Nat),x=.b (g:Int)/\g<=q2/\p<=p'/\p'+2*g<=p9+1+2*q2/\y.cases.length+g<=q2/\SSt t wr rb t.heap.size a cap bs p' O vc y
         case atStart=>exact⟨_,s,p9+1,rfl,Pw _,A7,A7,by rw[a0.o];simp,b1.o⟩
         case round=>
          clear b1 a0;obtain⟨vc,y,a1,rfl,h6,q1,q3,d5,m⟩:=hrel;have q:=Kz m;clear m;by_cases R:gk=0
          .have d6:¬(0:Int)<(gk:Int):=A7;obtain⟨ac,cc,rfl⟩:=aG q.o.cases;obtain⟨wJ,rfl⟩:=aj wr;have q5:y.cases.length<=20:=q.o.tiny.cases;go_wp2_with fail
           refine (aM _ rb a cap bs a1 _ 3 rfl q.o.rd A7 A7 B).mono ?_;rintro e m1 ⟨b6,rfl,i1,b7,b8⟩;have c:=Kz (q.o.drawn b7 b8);have z2:=c.o.box.row.lt;obtain⟨⟨_,q4⟩,f4⟩:=c.o.box.cell (o:=4) A7;clear b7 b8 q;go_upto_if 103 with fail
           go_cut [10,13] from 32 to 116 λb3 _ D=>∃(s'':Xq),b3=.h t.heap.size/\SSt t D rb t.heap.size a cap bs (a1+1) O (.slice ac y.cases.length cc) s''
           case first=>
            by_cases d7:b6=0
            .have m2:((b6:Int) == 0)=true:=by simp[d7]
             clear d7;go_wp2
             go_meet
             exact⟨_,rfl,c.o.fall (x:=(k:Int)+1) A7⟩
            .have m2:((b6:Int) == 0)=false:=by simpa using d7
             clear d7;go_wp2
             go_meet
             exact⟨y,rfl,c.o⟩
           case rest=>
            clear c q4 f4 z2 i1;obtain⟨s3,rfl,m⟩:=hcut;have j:=Kz m;clear m;go_wp2_with fail
            refine (aM _ rb a cap bs (a1+1) _ 16 rfl j.o.rd A7 A7 B).mono ?_;rintro e m3 ⟨f3,rfl,m4,i2,i3⟩;have z:=Kz (j.o.drawn i2 i3);have z2:=z.o.box.row.lt;obtain⟨⟨_,q4⟩,f4⟩:=z.o.box.cell (o:=3) A7;clear i2 i3 j;go_upto_if 109 with fail
            go_cut [10] from 32 to 116 λb3 D=>∃(s'':Xq),b3=.h t.heap.size/\SSt t D rb t.heap.size a cap bs (a1+2) O (.slice ac y.cases.length cc) s''
            case first=>
             by_cases d8:f3=0
             .have i4:((f3:Int) == 0)=true:=by simp[d8]
              clear d8;go_wp2
              go_meet
              exact⟨_,rfl,z.o.els (x:=0) A7⟩
             .have i4:((f3:Int) == 0)=false:=by simpa using d8
              clear d8;go_wp2
              go_meet
              exact⟨s3,rfl,z.o⟩
            case rest=>
             clear z q4 f4 z2 m4;obtain⟨l,rfl,m⟩:=hcut;have h:=Kz m;clear m;obtain⟨d9,e0,rfl⟩:=aG Z.o.own;have HA:=Kz (Z.o.drawn h.o.rd h.o.kb);obtain⟨aa,ca,a6,a7,rfl,i5,hT⟩:=h.o.cells;rw[i5] at h;have HT:=Kz hT;clear hT i5;have q6:=h.o.box.c0;have q7:=h.o.box.c1;have q8:=h.o.box.c2;have q9:=h.o.box.c3;have c4:=h.o.box.c4;have r0:=h.o.box.c5;have c6:=h.o.box.c6;have c7:=h.o.box.c7;have cz:=h.o.box.row.lt;have r1:=HA.o.c1;have az:=HA.o.row.lt;have m5:L.length<=3:=by have:=e9.o;omega
             have T:K_ wc (wc.alloc (.cells #[.slice aa l.asks.length ca,.b l.on,.slice a6 l.cases.length a7,.b l.els,.b l.fall,.bool l.fin,.bool l.bad,.string l.give] 146)):=ai _ _;have I:=Kz T;have f5:=Kz (HA.o.kept T).own;have e1:=(HA.o.kept T).kb.size;have b9:∀A u,(l.cells aa ca a6 a7)[A]? =some u->(wc.alloc (.cells #[.slice aa l.asks.length ca,.b l.on,.slice a6 l.cases.length a7,.b l.els,.b l.fall,.bool l.fin,.bool l.bad,.string l.give] 146)).cell? ((⟨wc.heap.size,0,none⟩:Addr).add A)=some u:=λA u r=>by rw[Qo];exact X_ wc #[.slice aa l.asks.length ca,.b l.on,.slice a6 l.cases.length a7,.b l.els,.b l.fall,.bool l.fin,.bool l.bad,.string l.give] 146 A u r
             have⟨m6,m7⟩:=aJ b9 e1;obtain⟨ic,c0,c1,c2,c3⟩:=aV Tryz.lu;clear T b9 e1;go_wp2_with (at_builtin;refine wpList_append_own _ rfl (.tmp 112) (.tmp 114) 60 rfl (w.alloc (.cells #[.b 0,J6] 62)).heap.size 146 ic _ 8 96 underlying60 c0 c1 c2 c3 rfl A8 (.slice d9 L.length e0) L.length xs rfl f5.o ⟨wc.heap.size,0,none⟩ 1 1 (l.cells aa ca a6 a7) rfl rfl m6.o (jQ l aa ca a6 a7) D6 A7 m7.o ?_;intro U C F G _;have a2:=HA.o.gB I.o G;have z2:=a2.2.lt;obtain⟨⟨_,y2⟩,m8⟩:=a2.2.row.at (i:=1) A7;have f6:=Kz F;obtain⟨P,Q,rfl⟩:=aG F;have f7:=Kz G;clear F G a2)
             go_roundg (gO-1)
             case measure=>omega
             case rel=>exact⟨k+1,a1+2,_,L++[l],_,C8,A7,by rw[Qi,e9.o];rfl,A7,A7,HA.o.push I.o HT.o h.o.tiny (h.o.pM rfl rfl) f6.o f7.o⟩
          .have d6:(0:Int)<(gk:Int):=A7;obtain⟨ac,cc,rfl⟩:=aG q.o.cases;have r3:y.cases.length<=20:=q.o.tiny.cases;have J:=Kz (q.o.kept (a_ wr));have y2:=J.o.box.c2;have r4:=Kz q.o;clear q;obtain⟨H,hm⟩:∃H:Nat,H=S-k:=⟨_,rfl⟩;have r5:H<=3:=A7;have r6:IntKind.i64.wrap ((k:Int)+1)= (k:Int)+1:=E9;have i4:IntKind.i64.wrap (1+(S:Int)-(k:Int))= (H:Int)+1:=E9;have r7:IntKind.i64.wrap (H:Int)= (H:Int):=E9;clear hm;go_upto_region 22 with fail
           refine Qk.region C9 (λw'=>w'.cell? ⟨t.heap.size,2,none⟩=some (.slice ac y.cases.length cc)) 20 y2 λb=>?_;refine ae 0 b ?_;refine ae 1 b ?_;refine ae 2 b ?_;refine ae 7 b ?_;refine bZ 8 (.b ((k:Int)+1)) b ?_ ?_
           .intro u r;try dsimp only at r
            go_simp
            try with_reducible rfl
           try simp only[upP]
           refine ae 9 b ?_;refine ae 10 b ?_;refine ae 11 b ?_;refine bZ 12 (.b ((H:Int)+1)) b ?_ ?_
           .intro u r;try dsimp only at r
            go_simp
            try with_reducible rfl
           try simp only[upP]
           refine bZ 13 (.b (H:Int)) b ?_ ?_
           .intro u r;try dsimp only at r
            go_simp
            try with_reducible rfl
           try simp only[upP]
           refine aD 3 λK d=>?_;go_simp
           go_at_call 10
           refine (aM _ rb a cap bs a1 _ 3 rfl J.o.rd A7 A7 B).mono ?_;rintro e m1 ⟨b6,rfl,i1,b7,b8⟩;have c:=Kz (J.o.drawn b7 b8);clear b7 b8;dsimp only;refine af d (λ_=>c.o.box.c2) ?_;clear d K b;have b:=c.o.box.c2;refine aD 4 λK d=>?_;go_simp
           go_at_call 138
           refine (uO _ b6 A7).mono ?_;rintro e m3 ⟨f8,rfl,ht,i6⟩;have j:=Kz (c.o.kept i6);clear i6;dsimp only;refine af d (λ_=>j.o.box.c2) ?_;clear d K b;have b:=j.o.box.c2;obtain⟨t1,i7⟩:∃t1:QV,(⟨#[118]⟩:QV)++f8=t1:=⟨_,rfl⟩;have m9:t1.size<=2:=by rw[<-i7,ByteArray.size_append];show 1+f8.size<=2;omega
           have n0:¬9223372036854775807<1+f8.size:=A7;refine bZ 5 (.string t1) b ?_ ?_
           .intro u r;try dsimp only at r
            go_simp
            try with_reducible rfl
           try simp only[upP]
           obtain⟨tx,i8⟩:∃tx:QV,t1++(⟨#[40,41]⟩:QV)=tx:=⟨_,rfl⟩;have n1:tx.size<=300:=by rw[<-i8,ByteArray.size_append];show t1.size+2<=300;omega
           have e2:¬9223372036854775807<t1.size+2:=A7;refine bZ 6 (.string tx) b ?_ ?_
           .intro u r;try dsimp only at r
            go_simp
            try with_reducible rfl
           try simp only[upP]
           clear i7 i8 n0 e2 m9 ht;refine aD 14 λK d=>?_;go_simp
           go_at_call 10
           refine (aM _ rb a cap bs (a1+1) _ H rfl j.o.rd A7 A7 B).mono ?_;rintro e e3 ⟨V,rfl,r8,i9,j0⟩;have z:=Kz (j.o.drawn i9 j0);clear i9 j0;dsimp only;refine af d (λ_=>z.o.box.c2) ?_;clear d K b;have b:=z.o.box.c2;have r9:IntKind.i64.wrap ((k:Int)+1+(V:Int))= (k:Int)+1+(V:Int):=E9;refine bZ 15 (.b ((k:Int)+1+(V:Int))) b ?_ ?_
           .intro u r;try dsimp only at r
            go_simp
            try with_reducible rfl
           try simp only[upP]
           refine ae 16 b ?_;refine au 17 λK d=>?_;go_simp
           have a3:K_ e3 (e3.alloc (.cells #[.string tx,.b ((k:Int)+1+(V:Int))] 187)):=ai _ _;have h:=Kz (z.o.kept a3);have c5:=Kz a3;refine af d (λ_=>h.o.box.c2) ?_;clear d K b a3;obtain⟨ic,c0,c1,c2,c3⟩:=aV Tryz.qZ;refine au 18 λK d=>?_;refine step_append_lies _ rfl (.tmp 82) (.tmp 98) 144 rfl t.heap.size 187 ic _ 2 24 underlying144 c0 c1 c2 c3 rfl A8 (.slice ac y.cases.length cc) y.cases.length (bv y.cases) E5 h.o.cases ⟨e3.heap.size,0,none⟩ 1 1 [.string tx,.b ((k:Int)+1+(V:Int))] E5 rfl (λA u r=>by rw[Qo];exact X_ e3 #[.string tx,.b ((k:Int)+1+(V:Int))] 187 A u (by simpa using r)) (λu r=>by simp at r;rcases r with rfl|rfl<;>rfl) A7 D6 A7 h.o.kb.size _ rfl ?_;intro g e4 s0 c8 a4 f9 g0;have W:=Kz (z.o.CV c5.o a4);have N:=Kz (z.o.uj (x:=⟨tx,(k:Int)+1+(V:Int)⟩) c5.o c8 a4 A7 ⟨n1,by show -1000<=(k:Int)+1+(V:Int);omega,by show (k:Int)+1+(V:Int)<=1000;omega⟩);have z6:=W.o.row.lt;have y6:=W.o.c2;obtain⟨_,e2⟩:=W.o.cell (o:=2) A7;clear c8 a4 f9 g0;refine af d (λ_=>W.o.c2) ?_;clear d K;have b:=W.o.c2;refine ae 19 b ?_;refine au 20 λK d=>?_;go_simp
           refine af d (λg1=>QK rfl g1) ?_;clear d K;refine aF ?_;go_wp2
           go_roundg (gk-1)
           case measure=>omega
           case rel=>exact⟨_,_,a1+2,C8,A7,A7,A7,by show (y.cases++[_]).length+(gk-1)<=q2;rw[Qi];show y.cases.length+1+(gk-1)<=q2;omega,N.o⟩
       .have d6:(0:Int)<(gk:Int):=A7;go_wp2_with fail
        refine (MQ _ rb a cap bs p8 i n q.o.rd A7 hi hn B).mono ?_;rintro e f ⟨x,p9,rfl,hx,l9,m0,b4,b5⟩;have c:=Kz (q.o.drawn b4 b5);have y0:=c.o.box.c0;have yz:=c.o.box.row.lt;clear b4 b5 q;go_upto_region 15 with fail
        go_cut [58] from 43 to 57 λn2 D=>∃E:Bool,n2=.bool E/\K_ f D
        case first=>
         obtain⟨ia,a8,c9,d0,d1⟩:=aV Tryz.gV;have e5:(f.alloc (.cells #[] 9)).ownsRow f.heap.size 9 1 (.c f.heap.size 0 0) 0 []:=Qa f #[] 0 (Pw _) (Py _) rfl;have e6:=Kz e5;have kA:K_ f (f.alloc (.cells #[] 9)):=ai _ _;have d2:=Kz kA;have n3:s.asks.length<=20:=c.o.tiny.asks;clear e5 kA;have fin:∀(X C:QX)(v1 U:QY)(S:Nat)(j1:List QY),K_ f X->X.ownsRow f.heap.size 9 1 v1 S j1->X.grownBy C v1.ownBlock->C.ownsRow f.heap.size 9 1 U (s.asks.length+1) ((s.asks++[x]).map Value.string)->∃P Q,U=.slice P (s.asks.length+1) Q/\K_ f C/\Calls prog 30 #[.slice P ((s.asks.length+1:Nat):Nat) Q] C λe w'=>(∃E:Bool,e=.returned (.bool E))/\K_ C w':=by
          intro X C v1 U S j1 kA e5 hg hO;obtain⟨P,Q,e,_,hT⟩:=dD hO;have g2:(s.asks++[x]).length=s.asks.length+1:=A9;rw[g2] at e;refine⟨P,Q,e,?_,Ea C P Q _ _ g2 (by rw[g2];omega) (λn4 hy=>?_) hT.strs⟩
          .exact Below.grown kA hg kA.size λk hk=>(e5.lt k hk).1
          .simp only[PK,PI] at hy;rcases hy with hy|rfl
           .have:=c.o.tiny.fA n4 hy;omega
           .omega
         have j2:=Kz fin;clear fin;rcases c.o.asks.2 with⟨ev,j3⟩|⟨g,cp,s1,ev,n5,j4,s2,_,_,_⟩
         .subst ev;have n6:Hid (s.asks=[]):=QO j3;have j5:=Kz (ay e6.o ((K_.refl _).alloc (.cells #[.string x] 9)));have j6:=Kz (d2.o.alloc (.cells #[.string x] 9));have j7:∀A u,([.string x]:List QY)[A]? =some u->((f.alloc (.cells #[] 9)).alloc (.cells #[.string x] 9)).cell? ((⟨f.heap.size+1,0,none⟩:Addr).add A)=some u:=by
           have:=lS (f.alloc (.cells #[] 9)) x;rw[Qh] at this;exact this
          have n7:=Kz j7;have g3:f.heap.size<=((f.alloc (.cells #[] 9)).alloc (.cells #[.string x] 9)).heap.size:=j6.o.size;clear j3 j7 d5 n3;go_wp2_with (first|(at_builtin;refine wpList_append_own_none _ rfl (.tmp 51) (.tmp 53) 26 rfl f.heap.size 9 ia 1 underlying26 a8 (.c f.heap.size 0 0) 0 [] rfl e6.o rfl ?_)|(at_builtin;refine wpList_append_own _ rfl (.tmp 54) (.tmp 56) 26 rfl f.heap.size 9 ia _ 1 16 underlying26 a8 c9 d0 d1 rfl A8 (.c f.heap.size 0 0) 0 [] rfl j5.o ⟨f.heap.size+1,0,none⟩ 1 1 [.string x] rfl rfl n7.o (lF x) D6 A7 g3 ?_;intro U C F G _;obtain⟨P,Q,rfl,k2,hC⟩:=j2.o _ C _ U 0 [] j6.o j5.o G (by rw[n6.o];exact F);have HC:=Kz hC;have g4:=Kz k2;clear F G hC k2))
          refine HC.o.mono ?_;rintro e w3 ⟨⟨E,rfl⟩,k3⟩;go_wp2
          go_meet
          exact⟨E,rfl,g4.o.trans k3⟩
         .subst ev;have b9:∀A u,(s.asks.map Value.string)[A]? =some u->(f.alloc (.cells #[] 9)).cell? ((⟨g,0,none⟩:Addr).add A)=some u:=λA u r=>(ay c.o.asks d2.o).cells (g:=g) rfl A u r
          have n8:=Kz b9;have g3:f.heap.size<=(f.alloc (.cells #[] 9)).heap.size:=d2.o.size;have s4:=aP j4;clear b9 j4 n5;go_wp2_with (first|(at_builtin;refine wpList_append_own _ rfl (.tmp 51) (.tmp 53) 26 rfl f.heap.size 9 ia _ 1 16 underlying26 a8 c9 d0 d1 rfl A8 (.c f.heap.size 0 0) 0 [] rfl e6.o ⟨g,0,none⟩ s.asks.length cp (s.asks.map Value.string) rfl A9 n8.o (yw _) D6 A7 g3 ?_;intro v1 X e7 j8 _;rw[Qb,List.nil_append] at e7;obtain⟨n9,o0,rfl⟩:=aG e7;have I:=Kz (Below.grown d2.o j8 d2.o.size λk hk=>(e6.o.lt k hk).1);have j9:=Kz (ay e7 ((K_.refl X).alloc (.cells #[.string x] 9)));have o1:f.heap.size<=(X.alloc (.cells #[.string x] 9)).heap.size:=(K_.alloc (a:=f) I.o (.cells #[.string x] 9)).size;clear e7 j8)|(at_builtin;refine wpList_append_own _ rfl (.tmp 54) (.tmp 56) 26 rfl f.heap.size 9 ia _ 1 16 underlying26 a8 c9 d0 d1 rfl A8 (.slice n9 s.asks.length o0) s.asks.length (s.asks.map Value.string) rfl j9.o ⟨X.heap.size,0,none⟩ 1 1 [.string x] rfl rfl (lS X x) (lF x) D6 A7 o1 ?_;intro U C F G _;obtain⟨P,Q,rfl,k2,hC⟩:=j2.o _ C _ U _ _ (K_.alloc (a:=f) I.o (.cells #[.string x] 9)) j9.o G (by rw[QM];exact F);have HC:=Kz hC;have g4:=Kz k2;clear F G hC k2))
          refine HC.o.mono ?_;rintro e w3 ⟨⟨E,rfl⟩,k3⟩;go_wp2
          go_meet
          exact⟨E,rfl,g4.o.trans k3⟩
        case rest=>
         obtain⟨E,rfl,k1⟩:=hcut;have j:=Kz (c.o.kept k1);clear c y0 yz k1;have y0:=j.o.box.c0;have yz:=j.o.box.row.lt;obtain⟨_,f0⟩:=j.o.box.cell (o:=0) A7;cases E
         .go_wp2
          go_roundg (gk-1)
          case measure=>omega
          case rel=>exact⟨O,s,p9,C8,A7,A7,A7,A7,a0.o,j.o⟩
         .obtain⟨ia,a8,c9,d0,d1⟩:=aV Tryz.gV;have T:K_ wc (wc.alloc (.cells #[.string x] 9)):=ai _ _;have I:=Kz T;have f5:=Kz (j.o.kept T).asks;have e1:t.heap.size<=(wc.alloc (.cells #[.string x] 9)).heap.size:=(j.o.kept T).kb.size;have f2:s.asks.length<=20:=j.o.tiny.asks;clear T;go_wp2_with (at_builtin;refine wpList_append_own _ rfl (.tmp 60) (.tmp 62) 26 rfl t.heap.size 9 ia _ 1 16 underlying26 a8 c9 d0 d1 rfl A8 O s.asks.length (s.asks.map Value.string) rfl f5.o ⟨wc.heap.size,0,none⟩ 1 1 [.string x] rfl rfl (lS wc x) (lF x) D6 A7 e1 ?_;intro U C F G _;have a2:=j.o.vw I.o G;have y2:=a2.c0;have z2:=a2.row.lt;obtain⟨_,m8⟩:=a2.cell (o:=0) A7;have f6:=Kz F;obtain⟨P,Q,rfl⟩:=aG F;have f7:=Kz G;clear F G a2)
          go_roundg (gk-1)
          case measure=>omega
          case rel=>exact⟨_,{s with asks:=s.asks++[x]},p9,C8,A7,A7,A7,by show (s.asks++[x]).length+(gk-1)<=a5;rw[Qi];show s.asks.length+1+(gk-1)<=a5;omega,a0.o,j.o.qK I.o f6.o f7.o A7 A7⟩
     .have s5:k=S:=A7;clear l8;obtain⟨d9,e0,rfl⟩:=aG Z.o.own;have J:=Kz (Z.o.kept (a_ t));have s6:Hid (aH t w.heap.size 62 2):=g6.o.but Z.o.kb A7;have y1:=J.o.c1;have m5:L.length<=3:=by have:=e9.o;omega
      have s9:=Kz Z.o;go_upto_region 28 with fail
      refine Qk.region C9 (λw'=>w'.cell? ⟨w1.heap.size,1,none⟩=some (.slice d9 L.length e0)) 11 y1 λb=>?_;refine ae 0 b ?_;refine ae 1 b ?_;refine ae 2 b ?_;refine ae 5 b ?_;refine aD 3 λK d=>?_;go_simp
      go_at_call 10
      refine (aM _ rb a cap bs p7 _ 8 rfl J.o.rd A7 A7 B).mono ?_;rintro e w3 ⟨v3,rfl,o2,k4,k5⟩;have c:=Kz (J.o.drawn k4 k5);clear k4 k5;dsimp only;refine af d (λ_=>c.o.c1) ?_;clear d K b;have b:=c.o.c1;obtain⟨M,o3⟩:∃M:Bool,((v3:Int) == 0)=M:=⟨_,rfl⟩;refine bZ 4 (.bool M) b ?_ ?_
      .intro u r;try dsimp only at r
       go_simp
       try with_reducible rfl
      try simp only[upP]
      clear o3 o2;refine aD 6 λK d=>?_;go_simp
      go_at_call 139
      refine (LA _ rb a cap bs (p7+1) c.o.rd A7 B).mono ?_;rintro e w4 ⟨Y,p8,rfl,t0,h7,h8,a9,b0⟩;have j:=Kz (c.o.drawn a9 b0);clear a9 b0;dsimp only;refine af d (λ_=>j.o.c1) ?_;clear d K b;have b:=j.o.c1;refine ae 7 b ?_;refine au 8 λK d=>?_;go_simp
      have a3:K_ w4 (w4.alloc (.cells #[J6,.b 0,J6,.b 0,.b 0,.bool true,.bool M,.string Y] 146)):=ai _ _;have h:=Kz (j.o.kept a3);have c5:=Kz a3;refine af d (λ_=>h.o.c1) ?_;clear d K b a3;obtain⟨ic,c0,c1,c2,c3⟩:=aV Tryz.lu;refine au 9 λK d=>?_;refine step_append_lies _ rfl (.tmp 118) (.tmp 125) 60 rfl (w.alloc (.cells #[.b 0,J6] 62)).heap.size 146 ic _ 8 96 underlying60 c0 c1 c2 c3 rfl A8 (.slice d9 L.length e0) L.length xs E5 h.o.own ⟨w4.heap.size,0,none⟩ 1 1 [J6,.b 0,J6,.b 0,.b 0,.bool true,.bool M,.string Y] E5 rfl (λA u r=>by rw[Qo];exact X_ w4 #[J6,.b 0,J6,.b 0,.b 0,.bool true,.bool M,.string Y] 146 A u (by simpa using r)) (jQ ⟨[],0,[],0,0,true,M,Y⟩ none 0 none 0) A7 D6 A7 h.o.kb.size _ rfl ?_;intro g e4 w5 c8 a4 f9 g0;have W:=Kz (j.o.gB c5.o a4);have k6:mU w4 9 187 [J6,.b 0,J6,.b 0,.b 0,.bool true,.bool M,.string Y] ⟨[],0,[],0,0,true,M,Y⟩:=⟨none,0,none,0,rfl,.inl rfl,.inl rfl,Pw _⟩;have k7:Xq.Tiny ⟨[],0,[],0,0,true,M,Y⟩:=⟨A9,λx hx=>by simp at hx,⟨F8,F9⟩,A9,λx hx=>by simp at hx,oM ⟨F8,F9⟩,⟨F8,F9⟩,by show Y.size<=300;omega⟩;have N:=Kz (j.o.push c5.o k6 k7 (kZ (s:=⟨[],0,[],0,0,true,M,Y⟩) (λ_=>⟨rfl,rfl⟩) λ_=>⟨rfl,rfl⟩) c8 a4);obtain⟨⟨_,y6⟩,e2⟩:=W.o.2.row.at (i:=1) A7;have z6:=W.o.2.lt;have y7:=W.o.1
      skip
      clear c8 a4 f9 g0 k6 k7;refine af d (λ_=>y7) ?_;clear d K;have b:=y7;refine ae 10 b ?_;refine au 11 λK d=>?_;go_simp
      refine af d (λg1=>QK rfl g1) ?_;clear d K;refine aF ?_;have t2:=N.o.c0;have t3:=N.o.c1;have oz:=N.o.row.lt;have d3:=Kz (g6.o.but N.o.kb A7);obtain⟨⟨_,x0⟩,t4⟩:=d3.o.row.at (i:=0) A7;obtain⟨⟨_,t5⟩,t6⟩:=d3.o.row.at (i:=1) A7;have xz:=d3.o.lt;clear b y6 e2 z6 y7;go_wp2
      have hR:=PD (w5.setCell ⟨w1.heap.size,1,none⟩ (.c g (L.length+1) e4)) w.heap.size 0 [.b cost,.c g (L.length+1) e4] (d3.o.row.there (o:=0) (m:=2) (Pw _));refine Zx [.b cost,.c g (L.length+1) e4] _ results108 rfl hR underlying62 rfl Tryz.jl rfl ?_;exact N.o.ends d3.o k0 k8.o rfl A7 A7 (by rw[Qi];show 1<=L.length+1;omega) (by rw[Qi];show L.length+1<=20;omega) A7
theorem Ab(w:QX)(rb:Nat)(a:QW)(cap:Nat)(bs:List UInt8)(p i n:Nat)(b c:Int)(d:b= (i:Int))(f:c= (n:Int))(h:Rd w rb a cap bs p)(j:p<=800000)(k:i<=100000)(l:n<=100000)(m:bs.length<=2000):
  Calls prog 108 #[.h rb,.b b,.b c] w λe w'=>su w w' rb a cap bs p 100 e:=by
 rw[d,f];exact yS w rb a cap bs p i n h j k l m
theorem jZ(w:QX)(i:Nat)(a:Int)(b:a= (i:Int))(c:i<=100000):
  Calls prog 68 #[.b a] w λe w'=>Eg w w' e:=by
 rw[b];exact nJ w i c
def qY(F t M N B:Nat):Prop:=∀(w:QX)(rb:Nat)(a:QW)(cap:Nat)(bs:List UInt8)(p:Nat),Rd w rb a cap bs p->p<=B->bs.length<=2000->
 Calls prog F #[.h rb] w λe w'=>jI M N w w' rb a cap bs p t e
theorem jI.via{N:Nat}{d t t':Nat}(r:jI M N w1 w2 rb a cap bs d t e)(c:Xj rb (rb+1) A0 w1)(k0:K_ w A0)(H:p<=d)(h2:d+t<=p+t')(s:Rd w rb a cap bs p){b:Nat}(x:w.heap.size<=b)(y:aH w1 b 25 1)(I:b≠rb):
  ∃v,e=.returned (.agg #[v])/\aH w2 b 25 1/\(∃va vn vc,v=.slice va vn vc)/\jI M N w (w2.setCell ⟨b,0,none⟩ v) rb a cap bs p t' e:=by
 obtain⟨v,L,A,f,J,K,B,C,h,D,i,E⟩:=r;have j:aH w2 b 25 1:=y.but i A7;have F:=j.same (o:=0) v;have k:Below w.heap.size w2 (w2.setCell ⟨b,0,none⟩ v):=(Below.refl _ _).setCell (p:=⟨b,0,none⟩) x _;have l:Xj rb (rb+1) w w1:=⟨c.os.trans k0.os,c.tape.trans k0.tape,c.output.trans k0.output,Pz k0.size c.size,λm n G=>(c.block m (Px n k0.size) G).trans (k0.block m n)⟩;have q:=l.trans i;obtain⟨va,vc,rfl,_,_⟩:=h.slice;exact⟨_,f,j,⟨_,_,_,rfl⟩,_,L,A,f,A7,A7,B,C,h.same F A8 A8 A8 A8,D.below s k q.size,q.below k,E.mono l.size⟩
theorem IW(c7:Hid (qY 106 400 20 60 700000))(c8:Hid (qY 107 400 20 60 700000)):qY 66 1100 20 60 600000:=by
 intro w f a j l p e hp B;have T:K_ w (w.alloc (.cells #[J6] 25)):=ai _ _;have b0:Hid (Rd (w.alloc (.cells #[J6] 25)) f a j l p):=e.kept T;have x:Hid (aH (w.alloc (.cells #[J6] 25)) w.heap.size 25 1):=aH.made w _ _;have e9:=e.row.lt;have a4:=Kz e;clear e;go_enter func66,ntmps66
 go_wp2_with fail
 refine (aM _ f a j l p _ 10 rfl b0.o A7 A7 B).mono ?_;rintro z w1 ⟨U,rfl,f1,b1,a5⟩;have⟨V,W⟩:=aJ b1 a5;have C:=Kz (x.o.but a5 A7);clear b1 a5;by_cases X:U=0
 .have c9:((U:Int) == 0)=true:=by simp[X]
  clear X;go_wp2_with fail
  refine (c7.out _ f a j l (p+1) V.o A7 B).mono ?_;intro z Y D;obtain⟨v,rfl,n,⟨E,F,G,rfl⟩,H⟩:=D.via (p:=p) W.o T A7 A7 a4.o (Pw _) C.o A7 (t':=1100);have⟨HD,a6⟩:=aJ H n;have z2:=n.lt;obtain⟨⟨_,u0⟩,f0⟩:=n.row.at (i:=0) A7;clear H D n;go_wp2
  have e:=PD Y w.heap.size 0 [.slice E F G] (a6.o.row.there (o:=0) (m:=1) (Pw _));exact Zx [.slice E F G] _ results66 rfl e underlying25 rfl Tryz.iI rfl HD.o
 have c9:((U:Int) == 0)=false:=by simpa using X
 clear X;by_cases h4:(U:Int)<4
 .go_wp2_with fail
  refine (c8.out _ f a j l (p+1) V.o A7 B).mono ?_;intro z Y D;obtain⟨v,rfl,n,⟨E,F,G,rfl⟩,H⟩:=D.via (p:=p) W.o T A7 A7 a4.o (Pw _) C.o A7 (t':=1100);have⟨HD,a6⟩:=aJ H n;have z2:=n.lt;obtain⟨⟨_,u0⟩,f0⟩:=n.row.at (i:=0) A7;clear H D n;go_wp2
  have e:=PD Y w.heap.size 0 [.slice E F G] (a6.o.row.there (o:=0) (m:=1) (Pw _));exact Zx [.slice E F G] _ results66 rfl e underlying25 rfl Tryz.iI rfl HD.o
 have a7:Hid (gK 20 (w.alloc (.cells #[J6] 25)) (w1.alloc (.cells #[J6] 25)) f w1.heap.size a j l (p+1) J6 [] []):=gK.made b0.o V.o W.o;have b2:Hid (aH (w1.alloc (.cells #[J6] 25)) w.heap.size 25 1):=C.o.kept (ai _ _);go_wp2_with fail
 refine (aM _ f a j l (p+1) _ 9 rfl a7.o.rd A7 A7 B).mono ?_;rintro z Y ⟨v2,rfl,f2,b3,a8⟩;have b4:=Kz (a7.o.drawn b3 a8);have I:=Kz (b2.o.but a8 A7);have d0:w.heap.size≠w1.heap.size:=λz=>by have:=C.o.lt;omega
 obtain⟨J,f3⟩:∃J:Nat,J=2+v2:=⟨_,rfl⟩;clear b3 a8 a7 b2 C V W;go_wp2
 go_loopg [6] J λg d1 wr=>∃(k:Nat)(p':Nat)(v:QY)(Z:List Qz)(a0:List QY),d1=.b (k:Int)/\k+g=J/\Z.length=k/\p<=p'/\p'<=p+2+100*k/\aH wr w.heap.size 25 1/\gK 20 (w.alloc (.cells #[J6] 25)) wr f w1.heap.size a j l p' v Z a0
 case atStart=>exact⟨0,p+2,_,[],[],rfl,A7,rfl,A7,A7,I.o,b4.o⟩
 case round=>
  clear b4 I;obtain⟨k,p7,v,Z,a0,rfl,hk,hL,f4,f5,b5,A⟩:=hrel;obtain⟨wO,rfl⟩:=aj wr;have⟨HO,q,x⟩:=dC A hL b5;obtain⟨L,M,rfl⟩:=aG A.own;have y0:=A.c0;have zb:=A.row.lt;have f6:=A.kb.size;rw[hL] at y0;clear A hL b5;by_cases f7:(k:Int)<2+(v2:Int)
  .have d2:Hid (∀v:QX,v.cell? ⟨w1.heap.size,0,none⟩=wO.cell? ⟨w1.heap.size,0,none⟩->(λ(v:QX)=>v.cell? ⟨w1.heap.size,0,none⟩=some (.slice L k M)) v):=λv hv=>hv.trans y0
   obtain⟨d3,d4,d5,d6,d7⟩:=aV Tryz.nV;go_wp2
   refine Qk.region C9 (λ(v:QX)=>v.cell? ⟨w1.heap.size,0,none⟩=some (.slice L k M)) 12 y0 λb=>?_;refine ae 0 b ?_;refine ae 1 b ?_;refine ae 2 b ?_;refine ae 4 b ?_;refine ae 5 b ?_;refine ae 6 b ?_;refine aD 3 λK c=>?_;go_simp
   go_at_call 68
   refine (jZ _ k _ rfl A7).mono ?_;rintro z w3 ⟨r,rfl,f8,k3⟩;have K3:K_ wO w3:=(a_ _).trans k3;dsimp only;refine c.out _ _ (λ_=>d2.o w3 (K3.cell zb)) ?_;clear c K b k3;have a1:=Kz (HO.o.kept K3);have I:=Kz (x.o.kept K3);have y3:=(K3.cell (o:=0) zb).trans y0;have f9:=a1.o.row.lt;have b:=y3;try simp only[upP]
   refine aD 7 λK c=>?_;go_simp
   go_at_call 108
   refine (Ab _ f a j l p7 k J _ _ rfl A7 a1.o.rd A7 A7 A7 B).mono ?_;rintro z O ⟨cost,us,s,p8,rfl,g0,g1,d8,d9,b6,b7,b8,b9,a9⟩;have P:=Kz (a1.o.drawn b9 a9);have e0:=Kz (I.o.but a9 A7);have y4:=P.o.c0;rw[q.o] at y4;have c1:=Kz b8.g;obtain⟨Q,R,rfl⟩:=c1.o.slice;have e1:Hid (Qz.TinyN 20 ⟨r,cost,s⟩):=⟨by show r.size<=300;omega,b6,by show s.length<=21;omega,b7⟩;dsimp only;refine c.out _ _ (λ_=>y4) ?_;clear c K b b8 b9 a9 d8 d9 b6 b7 y3 a1 I;have e2:=P.o.row.lt;have b:=y4;try simp only[upP]
   refine ae 8 b ?_;refine au 9 λK c=>?_;go_simp
   have y:K_ O (O.alloc (.cells #[.string r,.b cost,.slice Q s.length R] 64)):=ai _ _;refine af c (λ_=>(y.cell e2).trans y4) ?_;clear c K b;refine au 10 λK c=>?_;have c2:=Kz (P.o.kept y);have a2:=c2.o.own;rw[q.o] at a2;have e3:(w.alloc (.cells #[J6] 25)).heap.size<=(O.alloc (.cells #[.string r,.b cost,.slice Q s.length R] 64)).heap.size:=c2.o.kb.size;refine step_append_lies _ rfl (.tmp 27) (.tmp 35) 23 rfl (w.alloc (.cells #[J6] 25)).heap.size 64 d3 _ 3 48 underlying23 d4 d5 d6 d7 rfl A8 (.slice L k M) k a0 E5 a2 ⟨O.heap.size,0,none⟩ 1 1 [.string r,.b cost,.slice Q s.length R] E5 rfl (og _ _ _ _) (oU _ _ _ _ _) A7 D6 A7 e3 _ rfl ?_;intro g c3 w6 c4 a3 e4 g2;have S:=P.o.gB y (by rw[q.o];exact a3);have y6:=S.1;rw[q.o] at y6;have g3:=S.2.lt;have g4:=(S.2.row.at (i:=0) A7).2;obtain⟨vo,g5⟩:=(S.2.row.at (i:=0) A7).1;have e5:Hid (gK 20 (w.alloc (.cells #[J6] 25)) (w6.setCell ⟨w1.heap.size,0,none⟩ (.c g (k+1) c3)) f w1.heap.size a j l p8 (.c g (k+1) c3) (Z++[⟨r,cost,s⟩]) (a0++[.string r,.b cost,.slice Q s.length R])):=
    P.o.push (d:=⟨r,cost,s⟩) y (c1.o.same (u:=25) (.ak y) A8 A8 A8) e1.o (by rw[q.o];exact c4) (by rw[q.o];exact a3)
   have c5:aB 64 (O.alloc (.cells #[.string r,.b cost,.slice Q s.length R] 64)) w6:=aB.aI a2 a3;have e6:Hid (aH w6 w.heap.size 25 1):=by
    obtain⟨c6,e7,e8⟩:=e0.o.kept y;exact⟨c6,c5 _ c6 _ _ A8 e7,e8⟩
   clear S a2 c4 a3 e4 c5 y;refine af c (λ_=>y6) ?_;clear c K;have b:=y6;refine ae 11 b ?_;refine au 12 λK c=>?_;go_simp
   refine af c (λh=>QK rfl h) ?_;clear c K;refine aF ?_;go_wp2
   go_roundg (gk-1)
   case rel=>exact⟨k+1,p8,_,_,_,C8,A7,by rw[Qi,q.o];rfl,A7,A7,e6.o.block (Below.heap_setCell _ _ _ _ (by simpa using d0)),e5.o⟩
   case measure=>omega
  .obtain⟨⟨_,x0⟩,g6⟩:=x.o.row.at (i:=0) A7;have z1:=x.o.lt;go_wp2
   have e:=PD wO w.heap.size 0 [.slice L k M] (x.o.row.there (o:=0) (m:=1) (Pw _));have hE:=HO.o.ends (N:=60) (p:=p) (t:=1100) x.o (Pw _) T a4.o rfl A7 A7 (by have:=q.o;omega);rw[q.o] at hE;exact Zx [.slice L k M] _ results66 rfl e underlying25 rfl Tryz.iI rfl hE
