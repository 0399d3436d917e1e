import Derived.Test.YtppbfddlkfglgaaGreatDoorKXToldL
import Derived.Test.YtppbfddlkfglgaaGreatDoorKHChain
set_option maxRecDepth 100000
set_option maxHeartbeats 25600000
namespace Go.Proofs.YtppbfddlkfglgaaGreatDoor
open Go.RowKit Go.Proofs.Tryz
theorem Lf{W:bf}{σ:Env}(c:xY σ){n:QV}{f:Bool}{t:QV}{ok:Bool}(h:bI W σ n=if ok=true then some ⟨f,t⟩ else none)(d:ok=false->∃r,σ n=some r/\f=r.fail/\t=r.text):uF W σ n= ⟨n,ok,f,t⟩:=by
 unfold uF;cases ok
 .rw[h];obtain⟨r,a,e,i⟩:=d rfl;have j:r.over=false:=by
   unfold bI at h;cases b:W n with
   |none=>rw[b] at h;cases h
   |some A=>
    rw[b,a] at h;simp only at h;cases k:r.over
    .rfl
    .rw[k] at h;cases h
  obtain⟨l,m⟩:=c n r a j;rw[e,i,l,m]
  rfl
 .rw[h]
  rfl
section
variable {G:dm}{Kq:List Qz}{wz w w':QX}{bb:Nat}{a:QW}{cap:Nat}{rd:QW}{rn rc:Nat}{mb mx:Nat}{ts:List Zk}{d:QW}{dc:Nat}{f:QV -> QY}{ws:QV -> List Nat}
theorem Aj(I:BM G Kq wz w bb a cap rd rn rc mb mx ts d dc f ws)(J:xY (Qq (Qj ts)))(hl:ts.length<=1048576)(K:QW)(a3:Nat)(Kj:List QV)(c1:Kj.length<=1000)(L:∀n∈Kj,n.size<=1000/\((∃t∈ts,t.r.name=n)\/Kk Kq n=none))(A:∀n∈Kj,(uF (Kk Kq) (Qq (Qj ts)) n).text.size<=1048576)(M:Strs w K Kj):
  Calls prog 56 #[.slice K Kj.length a3,.func (.func 57) #[.h bb] #[]] w λe w'=>∃a',e=.returned (.slice a' Kj.length Kj.length)/\iQ w' w.heap.size w'.heap.size a' (Kj.map (uF (Kk Kq) (Qq (Qj ts))))/\K_ w w':=by
 obtain⟨R,B⟩:=aj (uF (Kk Kq) (Qq (Qj ts)));rw[<-B] at A⊢;have⟨N,HB,a4,C,a5⟩:=fQ B I J L A;have HR:=Kz M;clear B I J L A M;go_enter func56,ntmps56
 go_wp2
 go_loopw [5,12] (λx5 D wr=>∃(k:Nat)(j:QW)(m:Nat),k<=Kj.length/\D=.b (k:Int)/\x5=.slice j k m/\Hid (wr.ownsRow w.heap.size 54 4 (.slice j k m) k (bS ((Kj.take k).map R)))/\K_ w wr) (λ_ D _=>Kj.length-(intOf D).toNat)
 case atStart=>exact⟨0,none,0,Py _,rfl,rfl,Kz (Qt _ _ _ _),K_.refl _⟩
 case round=>
  obtain⟨k,j,m,hk,rfl,rfl,O,l⟩:=hrel;by_cases p:k<Kj.length;rotate_left
  .have c2:¬((k:Int)<(Kj.length:Int)):=A7;have s:k=Kj.length:=A7;have a6:Hid (si wr j (Kj.map R)):=by
    have P:=O.o;rw[s,Qc] at P;obtain⟨c3,c4,Q,h9⟩:=xV P;simp only[Qm] at Q;rw[Q.1];exact h9
   have S:(Kj.map R).length=k:=by rw[QD];exact s.symm
   have⟨a7,a8⟩:=aJ S s;clear p s S;go_wp2_with fail
   have q:=Di wr j m (Kj.map R) (by rw[QD];omega) (λc5 q=>by
    obtain⟨n,T,rfl⟩:=PX.1 q;have h1:=(C.o n T).1;refine⟨?_,a5.o n T⟩;have:(R n).name=n:=by rw[N.o];unfold uF;cases bI (Kk Kq) (Qq (Qj ts)) n<;>rfl
    rw[this];omega) a6.o
   rw[a7.o] at q;refine q.mono ?_;rintro e w2 ⟨a2,rfl,U,k2⟩;have HI:=Kz U;clear U q;go_wp2
   go_ret
   exact⟨a2,by rw[a8.o];rfl,HI.o.mono l.size (Pw _),l.trans k2⟩
  have c6:(k:Int)<(Kj.length:Int):=A7;obtain⟨sb,so,e1,a9,V⟩:=(HR.o.kept l) k p;subst e1;obtain⟨b,E⟩:=aj (Kj.getD k ByteArray.empty);rw[<-E] at V;have F:Kj[k]=b:=by rw[E];simp[List.getD,p]
  have W:b∈Kj:=by rw[<-F];exact PL p
  have⟨b0,X⟩:=aJ F W;clear E F W;go_wp2_with fail
  refine (nG (HB.o.kept l) b hl (C.o b X.o).1 (C.o b X.o).2).mono ?_;rintro e i ⟨⟨c,h,ok,rfl,Y,Z⟩,v⟩;have b1:Hid (R b= ⟨b,ok,c,h⟩):=by rw[N.o];exact Lf a4.o Y Z
  have x:K_ i ((i.alloc (.cells #[.bool c,.string h] 50)).alloc (.cells #[.string b,.bool ok,.bool c,.string h] 54)):=(ai _ _).alloc _;have r0:=X_ i #[.bool c,.string h] 50 0 _ rfl;have r1:=X_ i #[.bool c,.string h] 50 1 _ rfl;simp only[Qb] at r0 r1;have a0:=Kz (ay O.o (v.trans x));have b2:w.heap.size<=((i.alloc (.cells #[.bool c,.string h] 50)).alloc (.cells #[.string b,.bool ok,.bool c,.string h] 54)).heap.size:=(l.trans (v.trans x)).size;have b3:Hid (∀y u,([.string b,.bool ok,.bool c,.string h]:List QY)[y]? =some u->((i.alloc (.cells #[.bool c,.string h] 50)).alloc (.cells #[.string b,.bool ok,.bool c,.string h] 54)).cell? ((⟨i.heap.size+1,0,none⟩:Addr).add y)=some u):=λy u z=>by have:=X_ (i.alloc (.cells #[.bool c,.string h] 50)) #[.string b,.bool ok,.bool c,.string h] 54 y u z;rw[Qh] at this;rw[Qo];exact this
  have b4:Hid (∀u∈([.string b,.bool ok,.bool c,.string h]:List QY),u.oneCell'=true):=λu z=>by simp only[Qr,Qs,or_false] at z;rcases z with rfl|rfl|rfl|rfl<;>rfl
  have KK:=Kz (l.trans (v.trans x));obtain⟨ic,b5,b6,b7,b8⟩:=bi Tryz.sH;clear v x Y Z V a9;go_wp2_with (at_builtin;refine wpList_append_own _ rfl (.tmp 22) (.tmp 30) 29 rfl w.heap.size 54 ic _ 4 40 underlying29 b5 b6 b7 b8 rfl A8 (.slice j k m) k (bS ((Kj.take k).map R)) rfl a0.o ⟨i.heap.size+1,0,none⟩ 1 1 [.string b,.bool ok,.bool c,.string h] rfl rfl b3.o b4.o D6 A7 b2 ?_;intro v' w6 H a1 _;have KP:=aL KK.out (Pw _) a0.o a1;have HP:=Kz H;obtain⟨b9,c0,rfl⟩:=aG H;clear H a1)
  go_roundw
  case rel=>
   refine⟨k+1,b9,c0,A7,C8,rfl,Kz ?_,KP⟩;rw[PH p,QM,List.map_cons,List.map_nil,b0.o,b1.o,qA];exact HP.o
  case measure=>simp[intOf];omega
end
theorem Ex{Kq:List Qz}{ts:List Zk}{ws:QV->List Nat}(b:BS Kq ts ws)(h:oQ (Kk Kq) (Qq (Qj ts)))(n s:QV):CL ts ws n s↔bK (Kk Kq) (Qq (Qj ts)) n s:=by
 constructor
 .rintro⟨t,c,rfl,j⟩;have k:=bO b.good.asc (Qu (f:=λt:Zk=>t.r) c);exact (EI b.good.env h k s).1 ((b.wt s t c).1 j)
 .intro i;obtain⟨r,e⟩:∃r,Qq (Qj ts) n=some r:=by obtain⟨r,_,e,_⟩:=i;exact⟨r,e⟩
  obtain⟨l,m⟩:=bA e;obtain⟨t,c,rfl⟩:=PX.1 l;exact⟨t,c,m,(b.wt s t c).2 ((EI b.good.env h e s).2 i)⟩
def Lj(E:QV->QV->Prop)(w w':QX)(e:Ending):Prop:=
 ∃(da:QW)(ns:List QV),e=.returned (.slice da ns.length ns.length)/\iM w' w.heap.size w'.heap.size da ns/\ns.length<=60/\A_ E ns/\K_ w w'
theorem EB(w:QX)(q:Nat)(j:QV->Prop)(c:QV->List QV)(all:List QV)(E:∀s,j s->s∈all)(F:all.length<=60)(G:∀s,j s->s.size<=20)(X:∀s,(c s).length<=1000000)(H:xE w q j c):
  Calls prog 61 #[.map (some q)] w λe w'=>Lj (λx y=>y∈c x) w w' e:=by
 go_enter func61,ntmps61
 go_wp2_with fail
 refine (Eb w q j c all E F G X H).mono ?_;rintro e w1 ⟨d,f,a,k,l,Y,Z,back,rfl,r,m,I,J,hM,L⟩;have a0:a.length<=60:=by
  refine Pz (List.Nodup.length_le_of_subset ?_ λx hx=>E x ((m x).1 hx)) F;exact r.imp λ{b1 b2} a1=>fM a1
 have a2:Hid (jy (λx y=>y∈c x) a):=⟨r,λx y M=>(m x).2 (H.sub x λe=>by rw[e] at M;cases M)⟩;have a3:Hid (∀s∈a,s.size<=1048576):=λs hs=>by have:=G s ((m s).1 hs);omega
 have N:=Kz J;obtain⟨t,i⟩:=aj (w1.alloc (.cells #[.slice d a.length f,.c k a.length a.length,.c l a.length a.length] 178));have v:K_ w1 t:=by rw[i];exact ai _ _
 obtain⟨z,A⟩:=aj w1.heap.size;have n:Hid (∀u,K_ t u->u.cell? ⟨z,0,none⟩=some (.slice d a.length f)/\u.cell? ⟨z,1,none⟩=some (.c k a.length a.length)/\u.cell? ⟨z,2,none⟩=some (.c l a.length a.length)):=λu B=>by
  have C:w1.heap.size<t.heap.size:=by rw[i];simp
  have h:=X_ w1 #[.slice d a.length f,.c k a.length a.length,.c l a.length a.length] 178;rw[<-i] at h;rw[A];exact⟨(B.cell C).trans (h 0 _ rfl),(B.cell C).trans (h 1 _ rfl),(B.cell C).trans (h 2 _ rfl)⟩
 have O:=Kz (I.kept v);have a4:=Kz (L.trans v);have⟨a5,a6⟩:=aJ i A;clear r m I J L v i A;go_upto_region 2 with fail
 rw[<-a5.o,<-a6.o];refine bG 4 n.o λwd P D=>?_
 refine ae 0 D ?_;refine ae 1 D ?_;refine aD 2 λK b=>?_;go_simp
 go_at_call 105
 refine (F_ wd d f a k l Z back _ Y a0 hM (O.o.kept P) N.o).mono ?_;rintro e w3 ⟨pa,pc,Q,rfl,R,a7,S,T,k3⟩;have p:=P.trans k3;have⟨a8,a9,b0⟩:=dC R T S;clear R T S;dsimp only;refine af b (λ_=>n.o _ p) ?_;clear b K D;refine aD 3 λK b=>?_;go_simp
 go_at_call 104
 refine (La w3 d f a _ _ rfl rfl pa pc Q b0.o A7 A7 a3.o (O.o.kept p).names a8.o).mono ?_;rintro e w4 ⟨da,rfl,U,V⟩;have K4:=p.trans V;have HT:=Kz U;have W:=Kz (a4.o.trans p);clear U;dsimp only;refine af b (λ_=>n.o _ K4) ?_;clear b K;refine au 4 λK b=>?_;go_simp
 refine af b (λh=>QK rfl h) ?_;clear b K;refine aF ?_;clear n N;go_wp2
 go_ret
 refine⟨da,Q.map (nameOf a),by rw[QD];rfl,HT.o.mono W.o.size (Pw _),by rw[QD];exact a7,a9.o.OI a2.o,W.o.trans V⟩
def Oq(P:Ao->Prop)(w w':QX)(e:Ending):Prop:=
 ∃(o:Ao)(a f:QW)(c e0 mid:Nat),e=.returned (.agg #[.b o.code,.slice a o.res.length c,.slice f o.chain.length e0,.b o.dZ,.b o.cost])/\P o/\iQ w' w.heap.size mid a o.res/\iM w' mid w'.heap.size f o.chain/\w.heap.size<=mid/\mid<=w'.heap.size/\K_ w w'
theorem ow{w:QX}{b c g:Nat}{vs:List QY}{a:QW}{l:List fE}(h:iQ w b c a l)(e:g<b\/c<=g):iQ (w.setCells g 0 vs) b c a l:=h.same (Same.setCells e vs 0 w)
theorem CP{w:QX}{b c g:Nat}{vs:List QY}{a:QW}{l:List QV}(h:iM w b c a l)(e:g<b\/c<=g):iM (w.setCells g 0 vs) b c a l:=h.same (Same.setCells e vs 0 w)
section
variable {G:dm}{Kq:List Qz}{wz w w':QX}{bb:Nat}{a:QW}{cap:Nat}{rd:QW}{rc:Nat}{mb mx:Nat}{ts:List Zk}{d:QW}{dc:Nat}{f:QV -> QY}{ws:QV -> List Nat}
theorem Ak(Kj:List QV)(l:List Q_)(hB:BM G Kq wz w bb a cap rd Kj.length rc mb mx ts d dc f ws)(e7:BS Kq ts ws)(j7:mx<=9000)(K:jO Kq Kj l)(c3:Qj ts=l)(hR:Strs w rd Kj):
  Calls prog 22 #[.h bb] w λe w'=>Oq (sM Kq Kj l) w w' e:=by
 have⟨x,b4,a5,L,c5⟩:=fQ hB e7 K c3 K.good;have b5:=iC K.1;have c6:=x.o.len (kQ K.1);have j8:l.length<=60:=Pz K.good.len (kQ K.1);have c7:Kj.length<=10:=K.2.1.2.1;have e8:Hid (∀z∈Kj,z.size<=20):=λz M=>by
  obtain⟨n,hi,rfl⟩:=PN M;have p:=(K.2.1.2.2 n hi).1.2.1;simpa[List.getD,hi] using p
 have c8:Hid (∀z∈Kj,(∃O∈ts,O.r.name=z)\/Kk Kq z=none):=λz M=>by
  rcases K.NE z M with⟨n2,h1,h2⟩|h1
  .rw[<-c3] at h1;obtain⟨O,ht,e⟩:=PX.1 h1;exact .inl ⟨O,ht,by rw[e];exact h2⟩
  .exact .inr h1
 have n3:=x.o.row.lt;clear hB e7 K c3;obtain⟨W0,a6⟩:=aj (w.alloc (.cells #[.b 0,J6,J6,.b 0,.b 0] 31));have k0:K_ w W0:=by rw[a6];exact ai _ _
 have z0:W0.heap.size=w.heap.size+1:=by rw[a6];simp
 have e9:Hid (aH W0 w.heap.size 31 5):=by rw[a6];exact aH.made w _ _
 have j9:=(x.o.kept k0).c2;go_enter func22,ntmps22
 go_upto_region 1 with fail
 rw[<-a6];clear a6;go_wp2_with fail
 refine (Aj (x.o.kept k0) (by rw[L.o];exact a5.o.Pk) A7 rd rc Kj A7 (λz M=>⟨by have:=e8.o z M;omega,c8.o z M⟩) (λz M=>by rw[L.o];have:=JC c5.o (e8.o z M);omega) (hR.kept k0)).mono ?_;rintro e w1 ⟨i,rfl,c9,k1⟩;obtain⟨Z,d0⟩:=aj (uF (Kk Kq) (Qq l));rw[L.o,<-d0] at c9;obtain⟨b,a2⟩:=aj w1.heap.size;obtain⟨t,a3⟩:=aj (w1.alloc (.cells #[.b 0,.slice i Kj.length Kj.length,J6,.b 0,.b 0] 31));have k2:K_ w1 t:=by rw[a3];exact ai _ _
 have f2:Hid (iK t b t 0 (.slice i Kj.length Kj.length) 0 0):=by
  obtain⟨q0,q1,q2,q3,q4⟩:=Bp (w:=w1) (w1:=t) (v0:=.b 0) (v1:=.slice i Kj.length Kj.length) (v2:= J6) (v3:=.b 0) (v4:=.b 0) (t:=31) (by rw[a3];exact K_.refl _);rw[<-a2] at q0 q1 q2 q3 q4;exact⟨But.ak (K_.refl _),by rw[a3,a2];exact aH.made w1 _ _,q0,q1,q2,q3,q4⟩
 have n4:b<t.heap.size:=by rw[a3,a2];simp
 have n5:=k1.size;have n6:w.heap.size+1<=b:=A7;have f3:Hid (iQ t W0.heap.size b i (Kj.map Z)):=by rw[a2];exact c9.same (k2.same _ _)
 have d1:=k0.trans (k1.trans k2);have f4:=Kz (e9.o.kept (k1.trans k2));have d2:=Kz d0;have HC:Hid (∀u,But (λj=>j=b) t u->K_ w u/\aH u w.heap.size 31 5/\iQ u W0.heap.size b i (Kj.map Z)/\t.heap.size<=u.heap.size):=λu p=>⟨p.kept d1 (λj e=>by rw[e];omega),p.row f4.o λ(e:w.heap.size=b)=>A7,f3.o.same λj h1 h2 _=>p.block j A7 λ(e:j=b)=>A7,p.size⟩
 have k3:=(x.o.kept d1).c3;have n7:bb<t.heap.size:=A7;go_upto_region 2 with fail
 rw[<-a3,<-a2];clear a3 a2 k2 k1 f3 d0 c9 e9 f4 j9 d1;have f5:Hid (0=dW (l.take 0)/\0=bJ (Kk Kq) (l.take 0)):=⟨rfl,rfl⟩;have n8:¬b=bb:=A7;go_wp2
 go_loopw [20] (λd3 wr=>∃(n:Nat)(h c:Int),n<=ts.length/\d3=.b (n:Int)/\Hid (h=dW (l.take n)/\c=bJ (Kk Kq) (l.take n))/\Hid (iK t b wr 0 (.slice i Kj.length Kj.length) h c)) (λd3 _=>ts.length-(intOf d3).toNat)
 case atStart=>exact⟨0,0,0,Py _,rfl,f5,f2⟩
 case round=>
  clear f5 f2 k3;obtain⟨n,h,c,hi,rfl,HU,A⟩:=hrel;obtain⟨Kr,f6,f7,n9⟩:=HC.o wr A.o.but;have⟨f8,c8,f9⟩:=dC Kr f6 f7;clear Kr f6 f7;have g0:=Ha b5 c5.o j8 n;rw[<-HU.o.1,<-HU.o.2] at g0;have a7:(Qj ts).length=ts.length:=by simp[Qj]
  by_cases a0:n<ts.length
  .have o5:(n:Int)<(ts.length:Int):=A7;obtain⟨g,d4,d5⟩:=(x.o.kept f8.o).item a0;have o6:g<w.heap.size:=by
    obtain⟨g',g1,_⟩:=x.o.item a0;rw[d4] at g1;cases g1;exact (x.o.items.lt g (by rw[d4];rfl)).2
   subst d4;obtain⟨tk,b6⟩:=aj (ts[n]);rw[<-b6] at d5;have b7:tk∈ts:=by rw[b6];exact PL a0
   have hT:=(x.o.kept f8.o).fZ tk b7;have a8:=(x.o.fZ tk b7).row.lt;have t5:=hT.rng 5 _ rfl;have t7:=hT.rng 7 _ rfl;simp only[Qb] at t5 t7;have d6:l[n]'(by rw[<-L.o,a7];exact a0)=tk.r:=by
    have p:(Qj ts)[n]'(by rw[a7];exact a0)=tk.r:=by rw[b6];simp[Qj]
    rw[<-p]
    congr 1
    exact L.o.symm
   have d7:n<l.length:=by rw[<-L.o,a7];exact a0
   have g2:tk.r∈l:=by rw[<-d6];exact PL d7
   have d8:=c5.o.good tk.r g2;have hA:=((x.o).act tk b7).1;have d9:iE (Kk Kq) tk.r.name=tk.cost:=by rw[vO hA]
   have e0:=lh b5 tk.r.name;rw[d9] at e0;have g3:0<=tk.r.Zq/\tk.r.Zq<=20:=⟨d8.lo,d8.hi⟩;have k4:=LY g3 e0;have g4:Hid (h+tk.r.Zq=dW (l.take (n+1))/\c+tk.r.Zq*tk.cost=bJ (Kk Kq) (l.take (n+1))):=by
    rw[PH d7,vS,xK,d6,<-HU.o.1,<-HU.o.2,d9];exact⟨rfl,rfl⟩
   obtain⟨S,b0⟩:=aj tk.tb;obtain⟨v,b8⟩:=aj tk.r.Zq;obtain⟨P,b9⟩:=aj tk.cost;have k5:wr.cell? ⟨g,n,none⟩=some (.h S):=by rw[b0];exact d5
   rw[<-b0,<-b8] at t5;rw[<-b0,<-b9] at t7;rw[<-b0] at a8;rw[<-b8,<-b9] at g4 k4;rw[<-b8] at g3;rw[<-b9] at e0;have o7:IntKind.i64.wrap (h+v)=h+v:=df A7 A7;have o8:IntKind.i64.wrap (v*P)=v*P:=df A7 A7;have o9:IntKind.i64.wrap (c+v*P)=c+v*P:=df A7 A7;have g5:=A.o.row.lt;have e1:Hid (∀u:QX,(∀j,j<w.heap.size\/j=b->u.heap[j]? =wr.heap[j]?)->u.cell? ⟨b,3,none⟩=some (.b h)/\u.cell? ⟨b,4,none⟩=some (.b c)/\u.cell? ⟨S,5,none⟩=some (.b v)/\u.cell? ⟨S,7,none⟩=some (.b P)):=λu Q=>⟨(PO (w:=wr) (Q b (.inr rfl))).trans A.o.c3,(PO (w:=wr) (Q b (.inr rfl))).trans A.o.c4,(PO (w:=wr) (Q S (.inl a8))).trans t5,(PO (w:=wr) (Q S (.inl a8))).trans t7⟩
   have p0:g<wr.heap.size:=A7;have p1:¬b=S:=A7;clear d5 hT t5 t7 d6 d7 g2 d8 hA d9 b9 b8 b0 b6 b7;go_upto_region 5 with fail
   refine tN 9 e1.o (λ_ _=>rfl) λwd N B=>?_
   obtain⟨⟨_,e2⟩,e3⟩:=(A.o.kept N).row.row.at (i:=3) A7;have e4:=(A.o.kept N).row.lt;refine ax 0 B ?_;refine ax 4 B ?_;refine ae 8 B ?_;refine au 9 λe5 hK=>?_;go_simp
   refine af hK (λp=>QK rfl p) ?_;clear hK e5;refine aF ?_;clear e3 e2 e4;obtain⟨W5,b1⟩:=aj (wd.setCell ⟨b,3,none⟩ (.b (h+v)));rw[<-b1];have C:Hid (iK t b W5 0 (.slice i Kj.length Kj.length) (h+v) c):=by rw[b1];exact (A.o.kept N).Po _
   have k6:Hid (∀j,j≠b->j<wr.heap.size->W5.heap[j]? =wr.heap[j]?):=λj hb hz=>by rw[b1,Below.heap_setCell _ _ _ _ hb];exact N.block j hz
   have k7:Hid (∀u:QX,(∀j,j<w.heap.size\/j=b->u.heap[j]? =W5.heap[j]?)->u.cell? ⟨b,4,none⟩=some (.b c)/\u.cell? ⟨S,5,none⟩=some (.b v)/\u.cell? ⟨S,7,none⟩=some (.b P)):=λu Q=>by
    have ho:=e1.o wr λ_ _=>rfl;have q:∀j o,j<w.heap.size->u.cell? ⟨j,o,none⟩=wr.cell? ⟨j,o,none⟩:=λj o hb=>(PO (w:=W5) (Q j (.inl hb))).trans (PO (w:=wr) (k6.o j A7 A7))
    exact⟨(PO (w:=W5) (Q b (.inr rfl))).trans C.o.c4,(q _ _ a8).trans ho.2.2.1,(q _ _ a8).trans ho.2.2.2⟩
   have p2:wr.heap.size<=W5.heap.size:=by rw[b1,size_setCell];exact N.size
   clear b1 N A e1 B k5;clear wd;go_upto_region 6 with fail
   refine tN 15 k7.o (λ_ _=>rfl) λwd N B=>?_
   obtain⟨⟨_,e2⟩,e3⟩:=(C.o.kept N).row.row.at (i:=4) A7;have e4:=(C.o.kept N).row.lt;refine ax 0 B ?_;refine ax 4 B ?_;refine ax 8 B ?_;refine ae 12 B ?_;refine ae 13 B ?_;refine ae 14 B ?_;refine au 15 λe5 hK=>?_;go_simp
   refine af hK (λp=>QK rfl p) ?_;clear hK e5;refine aF ?_;have r:Hid (iK t b (wd.setCell ⟨b,4,none⟩ (.b (c+v*P))) 0 (.slice i Kj.length Kj.length) (h+v) (c+v*P)):=(C.o.kept N).Pq _;clear e3 e2 e4 B;go_wp2
   go_roundw
   case rel=>exact⟨n+1,h+v,c+v*P,A7,C8,g4,r⟩
   case measure=>simp[intOf];omega
  .have p3:¬((n:Int)<(ts.length:Int)):=A7;have g6:n=l.length:=by rw[<-L.o,a7];omega
   have a4:Hid (h=dW l/\c=bJ (Kk Kq) l):=by have p:=HU.o;rw[g6,Qc] at p;exact p
   have T:Hid ((Kj.map Z).length=Kj.length):=by show _=_;rw[QD]
   have o1:=A.o.c1;have g5:=A.o.row.lt;clear a0 g6 HU hi a7 g0;go_wp2_with fail
   have e6:=xw wr i Kj.length (Kj.map Z) (by rw[T.o];omega) f9.o.ress;rw[T.o] at e6;refine e6.mono ?_;clear e6;rintro e w5 ⟨U,l0⟩;have C:=Kz (A.o.kept l0);obtain⟨g7,g8,g9,l1⟩:=HC.o w5 C.o.but;have⟨h0,l2,l3⟩:=dC g7 g8 g9;clear g7 g8 g9 A c8 f9 o1 g5;have l4:=C.o.row.lt;rcases U.cases with⟨rfl,h3⟩|⟨rfl,h4⟩;rotate_left
   .have l5:=Kz h4;have b2:Hid (sM Kq Kj l ⟨0,Kj.map Z,[],h,c⟩):=⟨⟨by rw[T.o];exact c7,Py _⟩,.inl ⟨a5.o,⟨by rw[d2.o],a4.o.1,a4.o.2,.inl ⟨l5.o,rfl,rfl⟩⟩⟩⟩;have o0:=C.o.c0;obtain⟨⟨_,f0⟩,f1⟩:=C.o.row.row.at (i:=0) A7;obtain⟨D,F⟩:=aj (w5.setCell ⟨b,0,none⟩ (.b 0));have r:Hid (iK t b D 0 (.slice i Kj.length Kj.length) h c):=by rw[F];exact C.o.set0 0
    clear h4 U;go_upto_region 14 with fail
    rw[<-F];clear F f0 f1 o0;have o0:=r.o.c0;have o1:=r.o.c1;have o2:=r.o.c2;have o3:=r.o.c3;have o4:=r.o.c4;obtain⟨V,W,X,h5⟩:=HC.o D r.o.but;have⟨a1,H,b3⟩:=dC V W X;have Y:=r.o.row.lt;clear V W X;obtain⟨⟨⟨_,h6⟩,h7⟩,⟨⟨_,h8⟩,h9⟩,⟨⟨_,i0⟩,i1⟩,⟨⟨_,i2⟩,i3⟩,⟨_,i4⟩,i5⟩:=H.o.row.GR;have i6:=H.o.lt;have i7:¬b=w.heap.size:=A7;go_wp2
    have hX:=PD D w.heap.size 0 [.b 0,.slice i Kj.length Kj.length,J6,.b h,.b c] (H.o.row.there (o:=0) (m:=5) (Pw _));refine Zx [.b 0,.slice i Kj.length Kj.length,J6,.b h,.b c] _ results22 rfl hX underlying31 rfl Tryz.gT rfl ⟨_,i,none,Kj.length,0,b,?_,b2.o,?_,?_,A7,?_,?_⟩
    .show Ending.returned _=Ending.returned _;rw[T.o];try rfl
    .exact (ow (vs:=[.b 0,.slice i Kj.length Kj.length,J6,.b h,.b c]) b3.o (.inl A7)).mono A7 (Pw _)
    .exact .inl rfl
    .exact Pz (Nat.le_of_lt Y) (PY (size_setCells w.heap.size [.b 0,.slice i Kj.length Kj.length,J6,.b h,.b c] 0 D).symm)
    .exact dL (Pw _) [.b 0,.slice i Kj.length Kj.length,J6,.b h,.b c] 0 a1.o
   have i8:=Kz h3;clear h3 U;go_wp2_with fail
   refine (BO (x.o.kept h0.o) b4.o c6).mono ?_;rintro e w6 ⟨U,l6⟩;rw[L.o] at U;have r:=Kz (C.o.kept l6);have Y:=r.o.row.lt;have o0:=r.o.c0;obtain⟨⟨_,f0⟩,f1⟩:=r.o.row.row.at (i:=0) A7;clear C l4 h0 l2 l3 l1;rcases U.cases with⟨rfl,i9⟩|⟨rfl,j0⟩
   .have l7:=Kz i9;have b2:Hid (sM Kq Kj l ⟨2,Kj.map Z,[],h,c⟩):=⟨⟨by rw[T.o];exact c7,Py _⟩,.inl ⟨a5.o,⟨by rw[d2.o],a4.o.1,a4.o.2,.inr (.inl ⟨i8.o,l7.o,rfl,rfl⟩)⟩⟩⟩;obtain⟨D,F⟩:=aj (w6.setCell ⟨b,0,none⟩ (.b 2));have I:Hid (iK t b D 2 (.slice i Kj.length Kj.length) h c):=by rw[F];exact r.o.set0 2
    clear i9 U;go_upto_region 14 with fail
    rw[<-F];clear F f0 f1 o0 Y r;have o0:=I.o.c0;have o1:=I.o.c1;have o2:=I.o.c2;have o3:=I.o.c3;have o4:=I.o.c4;obtain⟨V,W,X,h5⟩:=HC.o D I.o.but;have⟨a1,H,b3⟩:=dC V W X;have Y:=I.o.row.lt;clear V W X;obtain⟨⟨⟨_,h6⟩,h7⟩,⟨⟨_,h8⟩,h9⟩,⟨⟨_,i0⟩,i1⟩,⟨⟨_,i2⟩,i3⟩,⟨_,i4⟩,i5⟩:=H.o.row.GR;have i6:=H.o.lt;have i7:¬b=w.heap.size:=A7;go_wp2
    have hX:=PD D w.heap.size 0 [.b 2,.slice i Kj.length Kj.length,J6,.b h,.b c] (H.o.row.there (o:=0) (m:=5) (Pw _));refine Zx [.b 2,.slice i Kj.length Kj.length,J6,.b h,.b c] _ results22 rfl hX underlying31 rfl Tryz.gT rfl ⟨_,i,none,Kj.length,0,b,?_,b2.o,?_,?_,A7,?_,?_⟩
    .show Ending.returned _=Ending.returned _;rw[T.o];try rfl
    .exact (ow (vs:=[.b 2,.slice i Kj.length Kj.length,J6,.b h,.b c]) b3.o (.inl A7)).mono A7 (Pw _)
    .exact .inl rfl
    .exact Pz (Nat.le_of_lt Y) (PY (size_setCells w.heap.size [.b 2,.slice i Kj.length Kj.length,J6,.b h,.b c] 0 D).symm)
    .exact dL (Pw _) [.b 2,.slice i Kj.length Kj.length,J6,.b h,.b c] 0 a1.o
   have l8:=Kz j0;obtain⟨D,F⟩:=aj (w6.setCell ⟨b,0,none⟩ (.b 1));have I:Hid (iK t b D 1 (.slice i Kj.length Kj.length) h c):=by rw[F];exact r.o.set0 1
   clear j0 U;go_upto_region 9 with fail
   rw[<-F];clear F f0 f1 o0 Y r;have a1:=Kz (HC.o D I.o.but).1;go_wp2_with fail
   refine (II (x.o.kept a1.o) b4.o b5 j7 c6).mono ?_;rintro e w8 ⟨mo,p4,g,ol,rfl,hO,hI,hM,k8⟩;have l9:Hid ((λj1 c2=>c2∈ol j1)=bK (Kk Kq) (Qq l)):=by
    show _=_
    funext j1 c2
    rw[hI.iff,<-L.o,Ex b4.o (by rw[L.o];exact a5.o.asked)];simp
   have j2:Hid (∀s,ol s≠[]->s∈ts.map (·.r.name)):=λs hs=>by
    obtain⟨c2,hy⟩:=List.exists_mem_of_ne_nil _ hs;obtain⟨_,O,ht,M,_⟩:=(hI.iff s c2).1 hy;rw[<-M];exact PX.2 ⟨O,ht,rfl⟩
   have m0:Hid (∀s,ol s≠[]->s.size<=20):=λs hs=>by
    obtain⟨O,ht,rfl⟩:=PX.1 (j2.o s hs);obtain⟨p5,hA,_⟩:=(b4.o.good.good O.r (Qu (f:=λO:Zk=>O.r) ht)).act;exact (b5 _ _ hA).2.2.1
   have m1:Hid (xE w8 mo (λs=>ol s≠[]) ol):=by
    obtain⟨m2,m3,hN,m4,hf,Q⟩:=hO.map;refine⟨⟨m2,m3,A7,m4,λs hs=>?_,Q⟩,λs p=>p⟩;have m5:=hO.row s;obtain⟨a9,m6,m7,m8⟩:=dV m5;exact⟨a9,m6,by rw[hf s hs,m7],m8⟩
   have m9:Hid (∀s,(ol s).length<=1000000):=λs=>by have:=hI.len s;omega
   clear hO hI;go_wp2_with fail
   refine (EB w8 mo _ ol (ts.map (·.r.name)) j2.o (by rw[QD];exact c6) m0.o m9.o m1.o).mono ?_;rintro e w9 ⟨E,k,rfl,j3,n0,j4,k9⟩;have j5:Hid (A_ (bK (Kk Kq) (Qq l)) k):=by rw[<-l9.o];exact j4
   have b2:Hid (sM Kq Kj l ⟨1,Kj.map Z,k,h,c⟩):=⟨⟨by rw[T.o];exact c7,n0⟩,.inl ⟨a5.o,⟨by rw[d2.o],a4.o.1,a4.o.2,.inr (.inr ⟨i8.o,l8.o,rfl,j5.o⟩)⟩⟩⟩;have R:=Kz (I.o.kept (k8.trans k9));have p6:=k8.size;have p7:=I.o.row.lt;have j6:=R.o.row.lt;obtain⟨⟨_,f0⟩,f1⟩:=R.o.row.row.at (i:=2) A7;obtain⟨y,J⟩:=aj (w9.setCell ⟨b,2,none⟩ (.slice E k.length k.length));have o0:y.cell? ⟨b,0,none⟩=some (.b 1):=by rw[J];exact miss R.o.c0 A8
   have o1:y.cell? ⟨b,1,none⟩=some (.slice i Kj.length Kj.length):=by rw[J];exact miss R.o.c1 A8
   have o2:y.cell? ⟨b,2,none⟩=some (.slice E k.length k.length):=by rw[J];exact bB R.o.row.row A7 _
   have o3:y.cell? ⟨b,3,none⟩=some (.b h):=by rw[J];exact miss R.o.c3 A8
   have o4:y.cell? ⟨b,4,none⟩=some (.b c):=by rw[J];exact miss R.o.c4 A8
   obtain⟨V,W,X,h5⟩:=HC.o y (by rw[J];exact R.o.but.set rfl _);have⟨a1,H,b3⟩:=dC V W X;have Y:b<y.heap.size:=by rw[J,size_setCell];exact j6
   have n1:Hid (iM y b y.heap.size E k):=by
    have p:iM y w8.heap.size w9.heap.size E k:=by rw[J];exact j3.same (Same.setCell _ (.inl (by show b<w8.heap.size;omega)) _)
    exact p.mono A7 (by rw[J,size_setCell];exact Pw _)
   clear V W X j3 j4 j5 R;go_upto_region 14 with fail
   rw[<-J];clear J f0 f1 j6;obtain⟨⟨⟨_,h6⟩,h7⟩,⟨⟨_,h8⟩,h9⟩,⟨⟨_,i0⟩,i1⟩,⟨⟨_,i2⟩,i3⟩,⟨_,i4⟩,i5⟩:=H.o.row.GR;have i6:=H.o.lt;have i7:¬b=w.heap.size:=A7;go_wp2
   have hX:=PD y w.heap.size 0 [.b 1,.slice i Kj.length Kj.length,.slice E k.length k.length,.b h,.b c] (H.o.row.there (o:=0) (m:=5) (Pw _));refine Zx [.b 1,.slice i Kj.length Kj.length,.slice E k.length k.length,.b h,.b c] _ results22 rfl hX underlying31 rfl Tryz.gT rfl ⟨_,i,E,Kj.length,k.length,b,?_,b2.o,?_,?_,A7,?_,?_⟩
   .show Ending.returned _=Ending.returned _;rw[T.o];try rfl
   .exact (ow (vs:=[.b 1,.slice i Kj.length Kj.length,.slice E k.length k.length,.b h,.b c]) b3.o (.inl A7)).mono A7 (Pw _)
   .exact (CP (vs:=[.b 1,.slice i Kj.length Kj.length,.slice E k.length k.length,.b h,.b c]) n1.o (.inl A7)).mono (Pw _) (PY (size_setCells w.heap.size [.b 1,.slice i Kj.length Kj.length,.slice E k.length k.length,.b h,.b c] 0 y).symm)
   .exact Pz (Nat.le_of_lt Y) (PY (size_setCells w.heap.size [.b 1,.slice i Kj.length Kj.length,.slice E k.length k.length,.b h,.b c] 0 y).symm)
   .exact dL (Pw _) [.b 1,.slice i Kj.length Kj.length,.slice E k.length k.length,.b h,.b c] 0 a1.o
end
theorem Tryz.ug :(prog.info? 35).map (·.size)=some 9:=C9
theorem Jj{w w':QX}{a b c d f:Nat}{h i j k:QW}{l:List aU}{m:List fE}{n:List QV}{p:List aU}{g:Nat}{vs:List QY}(q:sw w a c d f b h i j k l m n p)(r:g<a\/b<=g)(e:w'=w.setCells g 0 vs):sw w' a c d f b h i j k l m n p:=by
 rw[e];exact q.same (Same.setCells r vs 0 w)
theorem vW.wK{c:jK}{mx b:Nat}{S:bP}{D:dF}{w:QX}(h:vW c mx b S D w):L_ D.es S.slots:=λi a=>by
 have d:=h.i.pl.bT.back;rw[h.i.pl.wK i a];unfold jg;rw[PE a,PE A7];exact⟨rfl,rfl,rfl⟩
theorem vW.small{c:jK}{mx d:Nat}{S:bP}{D:dF}{w:QX}(h:vW c mx d S D w)(b:yA c):(∀s∈S.slots,s.name.size<=1048576)/\S.slots.length<=2060:=by
 constructor
 .intro s f;obtain⟨r,j⟩:=PV.1 (h.i.sn s f);obtain⟨A,k⟩:=PV.1 (h.i.pl.bT.ok.known s.name r j);have:=(b.ok _ _ k).2.2.1;omega
 .have m:=h.b3;have n:=(h.i.lens b.len).2.2.2.1;have p:=b.wk;omega
theorem kX(w:QX)(a:QW)(cap:Nat)(Kq:List Qz)(rd:QW)(rc:Nat)(Kj:List QV)(k:Int)(hl:Kq.length<=1048576)(hf:∀s∈Kq,s.Fits)(g8:Kj.length<=maxLen)(g9:Kj.length<=rc)(h0:∀s∈Kj,s.size<=maxLen)(hS:dS w a Kq)(hR:Strs w rd Kj)(h1:jW w):
  Calls prog 6 #[.agg #[.slice a Kq.length cap],.slice rd Kj.length rc,.b k] w λe w'=>Fp (qN Kq Kj k) w w' e:=by
 obtain⟨r,F⟩:=aj ((w.alloc (.cells #[.slice a Kq.length cap] 25)).alloc (.cells #[.b 0,J6,.b 0,.b 0,J6,J6,.b 0,.b 0,J6] 35));have K:K_ w r:=by rw[F];exact (ai _ _).alloc _
 have h2:r.heap.size=w.heap.size+1+1:=by rw[F];simp
 have h3:r.cell? ⟨w.heap.size,0,none⟩=some (.slice a Kq.length cap):=by
  rw[F];exact (FM (w:=w) (v:=.slice a Kq.length cap) (t:=25) (ai _ _)).1
 have a4:Hid (aH r (w.heap.size+1) 35 9):=by
  have h:=aH.made (w.alloc (.cells #[.slice a Kq.length cap] 25)) #[.b 0,J6,.b 0,.b 0,J6,J6,.b 0,.b 0,J6] 35;rw[Qh] at h;rw[F];exact h
 have z0:w.heap.size<r.heap.size:=A7;have e0:Hid (¬(bC Kq 0/\fJ Kj/\1<=k/\k<=60)->∀u,K_ r u->Fp (qN Kq Kj k) w (u.setCells (w.heap.size+1) 0 [.b 9,J6,.b 0,.b 0,J6,J6,.b 0,.b 0,J6]) (.returned (.agg #[.b 9,J6,.b 0,.b 0,J6,J6,.b 0,.b 0,J6]))):=λhn u ku=>⟨kF,none,none,none,none,0,0,0,0,w.heap.size,w.heap.size,w.heap.size,rfl,⟨⟨Py _,Py _,Py _,Py _⟩,.inr ⟨hn,rfl⟩⟩,⟨.inl rfl,.inl rfl,.inl rfl,.inl rfl,Pw _,Pw _,Pw _,by rw[size_setCells];have:=ku.size;omega⟩,dL (g:=w.heap.size+1) A7 _ 0 (K.trans ku)⟩
 go_enter func6,ntmps6
 go_upto_region 1 with fail
 rw[<-F];clear F;go_wp2_with fail
 refine (Fx r a cap Kq rd rc Kj hl hf g8 g9 h0 (hS.kept K) (hR.kept K)).mono ?_;rintro e w1 ⟨L,h4⟩;have K1:=K.trans L;have b:=a4.o.kept L;have⟨j9,k0⟩:=aJ b L;have S:Hid (¬(bC Kq 0/\fJ Kj/\1<=k/\k<=60)->Fp (qN Kq Kj k) w (w1.setCells (w.heap.size+1) 0 [.b 9,J6,.b 0,.b 0,J6,J6,.b 0,.b 0,J6]) (.returned (.agg #[.b 9,J6,.b 0,.b 0,J6,J6,.b 0,.b 0,J6]))/\(w1.setCells (w.heap.size+1) 0 [.b 9,J6,.b 0,.b 0,J6,J6,.b 0,.b 0,J6]).rangeAt (w.heap.size+1) 0 [.b 9,J6,.b 0,.b 0,J6,J6,.b 0,.b 0,J6]):=λhn=>⟨e0.o hn w1 L,PD w1 (w.heap.size+1) 0 [.b 9,J6,.b 0,.b 0,J6,J6,.b 0,.b 0,J6] (b.row.there (o:=0) (m:=9) (Pw _))⟩
 clear h3 z0 h2 e0 L;rcases h4 with⟨e1,rfl⟩|⟨M,U,wz,bb,mb,ts,h5,dc,rfl,N,t,V,X⟩
 .have O:Hid (¬(bC Kq 0/\fJ Kj/\1<=k/\k<=60)):=λh=>e1 ⟨h.1,h.2.1⟩
  obtain⟨⟨⟨_,a5⟩,a6⟩,⟨⟨_,a7⟩,a8⟩,⟨⟨_,a9⟩,b0⟩,⟨⟨_,b2⟩,b3⟩,⟨⟨_,b4⟩,b5⟩,⟨⟨_,b6⟩,b7⟩,⟨⟨_,b8⟩,b9⟩,⟨⟨_,c0⟩,c1⟩,⟨_,c2⟩,c3⟩:=b.row.Nz;have c4:=b.lt;clear e1 b;go_wp2_with fail
  obtain⟨p,x⟩:=S.o O.o;exact Zx [.b 9,J6,.b 0,.b 0,J6,J6,.b 0,.b 0,J6] _ results6 rfl x underlying35 rfl Tryz.ug rfl p
 by_cases k1:k<1
 .have O:Hid (¬(bC Kq 0/\fJ Kj/\1<=k/\k<=60)):=λh=>A7
  obtain⟨⟨⟨_,a5⟩,a6⟩,⟨⟨_,a7⟩,a8⟩,⟨⟨_,a9⟩,b0⟩,⟨⟨_,b2⟩,b3⟩,⟨⟨_,b4⟩,b5⟩,⟨⟨_,b6⟩,b7⟩,⟨⟨_,b8⟩,b9⟩,⟨⟨_,c0⟩,c1⟩,⟨_,c2⟩,c3⟩:=b.row.Nz;have c4:=b.lt;clear b M U N t V X;go_wp2_with fail
  obtain⟨p,x⟩:=S.o O.o;exact Zx [.b 9,J6,.b 0,.b 0,J6,J6,.b 0,.b 0,J6] _ results6 rfl x underlying35 rfl Tryz.ug rfl p
 by_cases k2:60<k
 .have O:Hid (¬(bC Kq 0/\fJ Kj/\1<=k/\k<=60)):=λh=>A7
  obtain⟨⟨⟨_,a5⟩,a6⟩,⟨⟨_,a7⟩,a8⟩,⟨⟨_,a9⟩,b0⟩,⟨⟨_,b2⟩,b3⟩,⟨⟨_,b4⟩,b5⟩,⟨⟨_,b6⟩,b7⟩,⟨⟨_,b8⟩,b9⟩,⟨⟨_,c0⟩,c1⟩,⟨_,c2⟩,c3⟩:=b.row.Nz;have c4:=b.lt;clear b M U N t V X;go_wp2_with fail
  obtain⟨p,x⟩:=S.o O.o;exact Zx [.b 9,J6,.b 0,.b 0,J6,J6,.b 0,.b 0,J6] _ results6 rfl x underlying35 rfl Tryz.ug rfl p
 clear S b;obtain⟨j,h6⟩:∃j:Nat,k=j:=⟨k.toNat,A7⟩;subst h6;have e2:j<=60:=A7;have k3:1<=j:=A7;have e3:=Dr (wk:=j) t e2;have c5:=iC M;have c6:=kr c5 Kj;have e4:Qj ts=b_ Kq Kj:=Fs t.asc c6.asc X;have⟨P,e5,h7,h8,c7⟩:=fQ M U e4 V c6;have Y:=Kz (K.trans N);have⟨e6,h9,i0⟩:=dC N t.asc t.tbs;clear M U e4 t V c6 X N;go_wp2_with fail
 refine e3.mono ?_;rintro e w2 ⟨cb,qb,fF,fa,fc,rfl,p,hM⟩;obtain⟨l,n⟩:∃l:jK,l= ⟨Kq,wz,j,cb,qb,bb,a,cap,rd,Kj.length,rc,mb⟩:=⟨_,rfl⟩;obtain⟨c8,hD⟩:∃c8:dF,c8= {newD ts h5 dc (λ_=>.slice none 0 0) (λ_=>[]) with fF:=fF,fn:=j,fa:=fa,fc:=fc}:=⟨_,rfl⟩;have hK:yA l:=by
  rw[n];exact⟨c5,hf,kQ P.o,yE P.o,hS.kept Y.o,h1.kept Y.o,e2⟩
 have i1:jm l (iR (b_ Kq Kj) j)<=1380:=by
  have Z:=Bc (Kq.map (·.name)) (Qq (b_ Kq Kj));have i2:=kQ P.o;rw[QD] at Z;rw[n];show dQ (Kq.map (·.name)) (Qq (b_ Kq Kj))<=1380;omega
 have hI:fB l 0 0 (iR (b_ Kq Kj) j) (λ_=>False) c8 w2:=by
  rw[n,hD];exact⟨hM,h8.o,h7.o,fG.start (jk c7.o).bT p,λk6 ht=>(by have h:=vg (loc:=λ_=>0) h9.o ht i0.o;exact h),λs hs=>by cases hs⟩
 have e7:yP (iR (b_ Kq Kj) j):=λk e h=>by
  have h':(List.replicate j (none:Option di))[k]? =some (some e):=h;rw[List.getElem?_replicate] at h'
  split at h'<;>simp at h'
 have c9:=CG hI hK e7 (λ_=>rfl) A7 A7 rfl;have d0:l.cb=cb:=by rw[n]
 have e8:l.bb=bb:=by rw[n]
 have d1:l.Kq=Kq:=by rw[n]
 have i3:l.wk=j:=by rw[n]
 rw[d0,d1] at c9;have⟨i4,i5,d2,e9,k7⟩:=fQ c9 hK n d0 e8;have f0:=Kz d1;clear e3 p hM hK i1 hI e7 c9 d0 e8 d1 i3 n hD;go_wp2_with fail
 refine i4.o.mono ?_;rintro e w3 ⟨u,A,rfl,d3,mx,mq,y,Q⟩;obtain⟨f1,jj,f2⟩:=d3.live c5 (jk (wk:=j) c7.o);have f3:jO Kq Kj A.T:=IY P.o e5.o f1.good c7.o.wf f2;have d4:=Q.small i5.o;have a0:=Q.i.mem;have f4:K_ wz w3:=by
  have h:=a0.bm.kw;rw[d2.o] at h;exact h
 have d5:=zS a0 Q.wK A7 d4.1;rw[e9.o] at d5;have⟨f5,H,i6,i7,d6⟩:=fQ d5 Q d3 f3 d4;have⟨f6,a1⟩:=aJ a0 f4;obtain⟨c,d7⟩:=aj A.slots;rw[<-d7] at f5;have f7:=Kz d7;clear f1 f2 f3 d4 a0 f4 d5 Q d3 d7;go_wp2_with fail
 refine f5.o.mono ?_;rintro e w4 ⟨z,rfl,f8,k4⟩;have d8:=(f6.o.kept k4).bm;have f9:=Ak Kj A.T (G:=GZ w4 l.cb l.qb (y.rows A.slots.length) (Oo y.ts)) (Kq:=Kq) (wz:=wz) (a:=a) (cap:=cap) (rd:=rd) (rc:=rc) (mb:=mb) (bb:=bb) (mx:=mx) (ts:=y.ts) (d:=y.d) (dc:=y.dc) (f:=y.f) (ws:=y.ws) (w:=w4) (by rw[d2.o] at d8;rw[d2.o];exact d8) (by have h:=H.o.i.bs;rw[f0.o] at h;exact h) (by have:=H.o.b1;omega) i7.o H.o.i.run (hR.kept ((Y.o.trans a1.o).trans k4));have⟨i8,i9,a2⟩:=dC f9 f8 k4;clear f9 f8 k4 d8;go_wp2_with fail
 refine i8.o.mono ?_;rintro e w5 ⟨o,B,C,I,J,g0,rfl,hA,g1,g2,q1,q2,k5⟩;have d9:=Aq (t:=u) (W:=Kk Kq) ((f6.o.kept a2.o).kept k5) (bk:=A.back) (by rw[<-f0.o];exact H.o.i.pl.wK) H.o.i.pl.bT.back H.o.i.pl.bT.prev (by have:=d6.o;omega) d6.o.1;rw[e9.o] at d9;have⟨j0,HA,j1,j2,a3⟩:=fQ d9 hA g1 g2 k5;clear d9 hA g1 g2 k5;go_wp2_with fail
 refine j0.o.mono ?_;rintro e R ⟨D,d,pp,rfl,g3,g4,g5,g6,E⟩;have b:=a4.o.kept (e6.o.trans (a1.o.trans (a2.o.trans (a3.o.trans E))));obtain⟨⟨⟨_,a5⟩,a6⟩,⟨⟨_,a7⟩,a8⟩,⟨⟨_,a9⟩,b0⟩,⟨⟨_,b2⟩,b3⟩,⟨⟨_,b4⟩,b5⟩,⟨⟨_,b6⟩,b7⟩,⟨⟨_,b8⟩,b9⟩,⟨⟨_,c0⟩,c1⟩,⟨_,c2⟩,c3⟩:=b.row.Nz;have c4:=b.lt;have j3:=Kz b;have j4:Hid (qN Kq Kj (j:Int) ⟨0,c,u,o,d⟩):=by
  have Z:=d6.o.2;rw[<-f7.o] at Z g5;refine⟨⟨by show c.length<=3000;omega,HA.o.1.1,HA.o.1.2,by show d.length<=3000;omega⟩,.inl ⟨⟨P.o,e5.o,A7,A7⟩,rfl,A.T,?_,HA.o⟩⟩;rw[Int.toNat_natCast];exact⟨A,pp,i6.o,f7.o.symm,rfl,g3,g4⟩
 have j5:Hid (sw R w3.heap.size w4.heap.size g0 w5.heap.size R.heap.size z B C D c o.res o.chain d):=by
  have z4:=a2.o.size;have z5:=a3.o.size;have z6:=E.size;have j6:=i9.o;exact⟨(j6.same (a3.o.same _ _)).same (E.same _ _),j1.o.same (E.same _ _),j2.o.same (E.same _ _),g6,z4,q1,q2,z6⟩
 have j7:=Kz E;clear b g3 g4 g5 g6 E;go_wp2_with fail
 have x:=PD R (w.heap.size+1) 0 [.b 0,.slice z c.length c.length,.b u,.b o.code,.slice B o.res.length I,.slice C o.chain.length J,.b o.dZ,.b o.cost,.slice D d.length d.length] (j3.o.row.there (o:=0) (m:=9) (Pw _));have j8:K_ w R:=Y.o.trans (a1.o.trans (a2.o.trans (a3.o.trans j7.o)));have k8:w.heap.size+1+1<=w3.heap.size:=by
  have Z:=a4.o.lt;have i2:=e6.o.size;have k9:=a1.o.size;omega
 have g7:=size_setCells (w.heap.size+1) [.b 0,.slice z c.length c.length,.b u,.b o.code,.slice B o.res.length I,.slice C o.chain.length J,.b o.dZ,.b o.cost,.slice D d.length d.length] 0 R;have q:=Jj (vs:=[.b 0,.slice z c.length c.length,.b u,.b o.code,.slice B o.res.length I,.slice C o.chain.length J,.b o.dZ,.b o.cost,.slice D d.length d.length]) j5.o (g:=w.heap.size+1) (.inl A7) rfl;refine Zx [.b 0,.slice z c.length c.length,.b u,.b o.code,.slice B o.res.length I,.slice C o.chain.length J,.b o.dZ,.b o.cost,.slice D d.length d.length] _ results6 rfl x underlying35 rfl Tryz.ug rfl ⟨⟨0,c,u,o,d⟩,z,B,C,D,c.length,I,J,d.length,w4.heap.size,g0,w5.heap.size,rfl,j4.o,?_,dL (g:=w.heap.size+1) A7 [.b 0,.slice z c.length c.length,.b u,.b o.code,.slice B o.res.length I,.slice C o.chain.length J,.b o.dZ,.b o.cost,.slice D d.length d.length] 0 j8⟩;refine⟨q.sl.mono A7 (Pw _),q.rs,q.ch,q.cn.mono (Pw _) (PY g7.symm),?_,q.l2,q.l3,?_⟩
 .have:=q.l1;omega
 .exact Pz q.l4 (PY g7.symm)
