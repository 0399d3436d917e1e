import Derived.Test.YtbmhchdegdjfkaaGreatDoorKShelf
import Derived.Test.YtbmhchdegdjfkaaGreatDoorKWCheck5
import Derived.Test.YtbmhchdegdjfkaaGreatDoorKOPutB
import Derived.Deep.RegionHeldLaw
import Derived.Test.YtbmhchdegdjfkaaGreatDoorKDSpoil
set_option maxRecDepth 100000
set_option maxHeartbeats 25600000
namespace Go.Proofs.YtbmhchdegdjfkaaGreatDoor
open Go.RowKit Go.Proofs.Tryz
theorem DD(w:KH)(s:KC)(b:s.size<=1048576):Calls prog 33 #[.string s] w fun e w'=>e= .returned (.string s)/\K_ w w':=by
 go_enter func33,ntmps33
 go_wp2_with fail
 refine (Tryz.stringslite_Clone s _ (by omega)).mono ?_;rintro e w1 ⟨rfl,a⟩;go_wp2
 go_ret
 exact⟨rfl,a⟩
theorem rD(w:KH)(a:KG)(B:Nat)(l:List KC)(N:l.length<=1048576)(C:∀s∈l,s.size<=1048576)(D:Strs w a l):
  Calls prog 30 #[.slice a l.length B,.func (.func 33) #[] #[]] w fun e w'=>∃a',e= .returned (.slice a' l.length l.length)/\jG w' w.heap.size w'.heap.size a' l/\K_ w w':=by
 by_cases r:l.length=0
 ·have E:l=[]:=Kn r;subst E;go_enter func30,ntmps30
  go_wp2
  go_ret
  exact⟨none,rfl,.inl rfl,K_.refl _⟩
 ·have F:=run_make_row' (P:=prog) 26 9 _ _ underlying26 Tryz.CS rfl .i64 .i64 l.length (by omega) (by omega);have G:((l.length:Int) == 0)=false:=by simpa using r
  go_enter func30,ntmps30
  go_wp2
  clear F G;have t:Row (w.alloc (.cells (madeCells #[.string ByteArray.empty] l.length) 9)) w.heap.size l.length:=⟨_,_,World.rowIs_made w (.string ByteArray.empty) l.length 9⟩;have v:K_ w (w.alloc (.cells (madeCells #[.string ByteArray.empty] l.length) 9)):=Below.alloc (Below.refl _ _) (IZ _) _;go_loopw [16] (fun i wr=>∃k:Nat,k<=l.length/\i= .int .i64 k/\K_ w wr/\Row wr w.heap.size l.length/\∀j,j<k->wr.cell? ⟨w.heap.size,j,none⟩=some (.string (l.getD j ByteArray.empty))) (fun i _=>l.length-(intOf i).toNat)
  case atStart=>exact⟨0,Ja _,rfl,v,t,fun j d=>aP d⟩
  case round=>
   obtain⟨k,O,rfl,f,c,x⟩:=hrel;clear t v;have m:=Kz x;by_cases n:k<l.length
   ·obtain⟨b,o,rfl,Q,y⟩:=D.kept f k n;have A:=C (l.getD k ByteArray.empty) (by simp[List.getD,n]);obtain⟨s,p⟩:=ah (l.getD k ByteArray.empty);rw[<-p] at y A;have H:=Kz p;clear p x;have I:=c.lt;go_wp2_with fail
    refine (DD _ s A).mono ?_;rintro e w1 ⟨rfl,h⟩;have q:=c.kept h;have J:=Kz q;have K:Hid (∀j,j<k->w1.cell? ⟨w.heap.size,j,none⟩=some (.string (l.getD j ByteArray.empty))):=fun j d=>by rw[h.cell I];exact m.o j d
    obtain⟨⟨old,L⟩,R⟩:=q.at n;have M:=f.trans h;clear m c q f h y;go_wp2
    go_roundw
    case rel=>
     refine⟨k+1,by omega,by go_num,M.setCell (IZ _) _,J.o.set _ rfl _,fun j d=>?_⟩;by_cases e:j=k
     ·subst e;rw[JZ _ _ _ L,H.o]
     ·rw[Jr _ _ _ _ (by simp <;> omega)];exact K.o j (by omega)
    case measure=>simp[intOf];omega
   ·have:k=l.length:=by omega
    subst this;go_wp2
    go_ret
    exact⟨_,rfl,.inr ⟨w.heap.size,rfl,IZ _,c.lt,c,m.o⟩,f⟩
variable {w : KH}
theorem bO{P:Program}{e:Func}{R:Ending->KH->Prop}{a:Act}{p q:Tmp}{c:TypeId}{b:Nat}(cs:List KI)(d:TypeDesc)(v:KI)(h:e.results= #[.cell p c,.tmp q])
 (i:a.tmps.getD p undef= .pointer (some ⟨b,0,none⟩)) (j:w.rangeAt b 0 cs) (k:P.underlying c=some d) (l:d.isRow=true) (m:(P.info? c).map (·.size)=some cs.length)
 (n:a.tmps.getD q undef=v) (r:a.defers=[]) (s:R (.returned (.tuple #[.agg cs.toArray,v])) w):bodyPost P e R .ret a w:=by
 refine bodyPost_ret ?_ r s;have t:a.tmps[p]?.getD undef= .pointer (some ⟨b,0,none⟩):=by simpa using i
 have x:a.tmps[q]?.getD undef=v:=by simpa using n
 simp only[results,h];simp[t,x,asAddr,run_loadVar_mid w b 0 c cs d j k l m]
def FI(l:List Qz)(p:Nat):List Qz:=l.take p++l.drop (p+1)
def bM(key:List UInt8)(d:Qz):Bool:= !(d.name.toList == key)
theorem rf(f:Qz->Bool)(l:List Qz)(k:Nat)(h:k<l.length):(l.take (k+1)).filter f= (l.take k).filter f++ (if f (l.getD k Qz.zero)=true then [l.getD k Qz.zero] else []):=by
 rw[Jf h,List.filter_append]
 congr 1
 have e:l.getD k Qz.zero=l[k]:=by simp[List.getD,h]
 rw[e];by_cases b:f l[k]=true
 ·simp[b]
 ·simp[b]
theorem lJ(d:Qz)(a:KG)(c:Nat):∀u∈([.string d.name,.int .i64 d.cost,.slice a d.steps.length c]:List KI),u.oneCell'=true:=by
 intro u b;simp only[JN,JO,or_false] at b;rcases b with rfl | rfl | rfl <;> rfl
variable {mN : Nat}
theorem xg(w:KH)(cost:Int)(a:KG)(d:Nat)(l:List Xq)(i:mN<=1000)(n:l.length<=21)(j:∀s∈l,s.TinyN mN)(k:jE w a l):
  Calls prog 124 #[.agg #[.int .i64 cost,.slice a l.length d]] w fun e w'=>∃b c,e= .returned (.agg #[.int .i64 cost,.slice b l.length c])/\cB w' (.slice b l.length c) l/\K_ w w':=by
 refine (Ap w cost a d l (by omega) i j k).mono ?_;rintro e w' ⟨v,q,rfl,f,h,m⟩;obtain⟨b,c,rfl⟩:=ax f;exact⟨b,c,rfl,(StW.fQ f h.packed h.mU).g,m⟩
structure BZ (w wr w6:KH) (a0:KG) (n cap:Nat):Prop where
 kept:K_ w w6
 size:w.heap.size+3<=w6.heap.size
 arg:w6.cell? ⟨w.heap.size,0,none⟩=some (.slice a0 n cap)
 res:au w6 (w.heap.size+1) 25 1
 out:au w6 (w.heap.size+2) 25 1
 below:Below (w.heap.size+3) wr w6
variable {xs : List KI} {cap cv m n : Nat} {av : KG} {w6 wr : KH}
theorem BZ.of{W:KH}{c:KG}(f:K_ w wr)(h:w.heap.size+3<=wr.heap.size)(b:K_ wr W)
 (p0:wr.cell? ⟨w.heap.size,0,none⟩=some (.slice c n cap)) (i:au wr (w.heap.size+1) 25 1) (j:au wr (w.heap.size+2) 25 1)
 (d:W.ownsRow (w.heap.size+3) 79 3 (.slice av m cv) m xs) (e:W.grownBy w6 (Value.slice av m cv).ownBlock):BZ w wr w6 c n cap:=by
 have l:=b.size;have a:Below (w.heap.size+3) wr w6:=(Below.mono b (by omega)).trans (Below.grown (Below.refl _ _) e (by omega) (fun g k=>(d.lt g k).1));refine⟨aF (f.trans b) (by omega) d e,Jb h a.size, ?_,i.block (a.block _ (by omega)),j.block (a.block _ (by omega)),a⟩;rw[Below.cell a (p:=⟨w.heap.size,0,none⟩) (by simp <;> omega)];exact p0
variable {l : List Qz} {ca : Nat} {d : Qz}
theorem BU{W w2:KH}{base:Nat}{a:KG}(c:K_ wr W)(e:K_ w2 W)(f:cK wr xs l)(h:cB w2 (.slice a d.steps.length ca) d.steps)
 (i:W.ownsRow base 79 3 (.slice av m cv) m xs) (j:W.grownBy w6 (Value.slice av m cv).ownBlock):cK w6 (xs++ [.string d.name,.int .i64 d.cost,.slice a d.steps.length ca]) (l++ [d]):=by
 have b:ak 79 W w6:=ak.aK i j;exact (f.same ((ak.aC c).trans b) (by decide) (by decide) (by decide)).snoc (h.same ((ak.aC e).trans b) (by decide) (by decide) (by decide))
theorem pM(w:KH)(s:KG)(q:Nat)(l:List Qz)(b:KC)(b6:mN<=1000)(hl:l.length<=1000)(hs:∀d∈l,d.TinyN mN)(hS:qI w s l):
  Calls prog 95 #[.agg #[.slice s l.length q],.string b] w fun e w'=>∃a c r base,e= .returned (.agg #[.slice a (l.filter (bM b.toList)).length c])/\w.heap.size<=base/\w'.ownsRow base 79 3 (.slice a (l.filter (bM b.toList)).length c) (l.filter (bM b.toList)).length r/\cK w' r (l.filter (bM b.toList))/\K_ w w':=by
 go_enter func95,ntmps95
 go_wp2
 have k0:K_ w (((w.alloc (.cells #[.slice s l.length q] 25)).alloc (.cells #[.slice none 0 0] 25)).alloc (.cells #[.slice none 0 0] 25)):=((ag _ _).alloc _).alloc _;go_loopw [6] (fun M wr=>∃(k m:Nat) (f:KG) (h:Nat) (r:List KI),k<=l.length/\M= .int .i64 k/\K_ w wr/\w.heap.size+3<=wr.heap.size/\wr.cell? ⟨w.heap.size,0,none⟩=some (.slice s l.length q)/\au wr (w.heap.size+1) 25 1/\au wr (w.heap.size+2) 25 1/\
   wr.cell? ⟨w.heap.size+2,0,none⟩=some (.slice f m h)/\m= ((l.take k).filter (bM b.toList)).length/\wr.ownsRow (w.heap.size+3) 79 3 (.slice f m h) m r/\cK wr r ((l.take k).filter (bM b.toList))) (fun M _=>l.length-(intOf M).toNat)
 case atStart=>
  have G:=X_ ((w.alloc (.cells #[.slice s l.length q] 25)).alloc (.cells #[.slice none 0 0] 25)) #[.slice none 0 0] 25;simp only[JG] at G;refine⟨0,0,none,0,[],Ja _,rfl,k0, ?_, ?_, ?_, ?_,G 0 _ rfl,rfl,JP _ _ _ _,cK.nil _⟩
  ·simp only[JG];omega
  ·rw[K_.cell (w:=w.alloc (.cells #[.slice s l.length q] 25)) ((ag _ _).alloc _) (by simp)];exact X_ w _ _ 0 _ rfl
  ·exact au.kept (by have:=au.made (w.alloc (.cells #[.slice s l.length q] 25)) #[.slice none 0 0] 25;simpa using this) (ag _ _)
  ·have:=au.made ((w.alloc (.cells #[.slice s l.length q] 25)).alloc (.cells #[.slice none 0 0] 25)) #[.slice none 0 0] 25;simpa using this
 case round=>
  clear k0;obtain⟨k,m,f,h,r,hk,rfl,v,hz,H,a0,a1,N,O,a2,hP⟩:=hrel;have d5:w.heap.size<wr.heap.size:=by omega
  have⟨y,a3,I,J,L⟩:=iU a0 a1 a2 hP O;have d6:m<=l.length:=by rw[O];exact Jb (List.length_filter_le _ _) (by rw[Jt];omega)
  clear a0 a1 a2 hP O;by_cases P:k<l.length
  ·obtain⟨B,i,Q,R,b7,a4,a5,a6⟩:=hS k P;have A:=v.range a4 a5;have a7:=a6.kept v;subst b7;have d7:B<wr.heap.size:=I_ a4 v.size;clear a5 a6;have S:=hs (l.getD k Qz.zero) (by simp[List.getD,P]);have T:=rf (bM b.toList) l k P;obtain⟨d,a8⟩:=ah (l.getD k Qz.zero);rw[<-a8] at A a7 S T;have a9:=Kz T;have U:=A 0 _ rfl;have c1:=A 1 _ rfl;have c2:=A 2 _ rfl;rw[JM] at U;clear A a8 T;cases b0:(d.name.toList == b.toList)
   ·have C:Hid (∀w',Below (w.heap.size+3) wr w'->w'.cell? ⟨w.heap.size+2,0,none⟩=some (.slice f m h)/\w'.cell? ⟨w.heap.size,0,none⟩=some (.slice (some ⟨B,i,none⟩) l.length q)/\w'.cell? ⟨B,i+k*3,none⟩=some (.string d.name)/\w'.cell? ⟨B,i+k*3+1,none⟩=some (.int .i64 d.cost)/\w'.cell? ⟨B,i+k*3+2,none⟩=some (.slice Q d.steps.length R)):=fun w' D=>⟨(Below.cell D (p:=⟨w.heap.size+2,0,none⟩) (by simp)).trans N,(Below.cell D (p:=⟨w.heap.size,0,none⟩) (by simp <;> omega)).trans H,(Below.cell D (p:=⟨B,i+k*3,none⟩) (by simp <;> omega)).trans U,(Below.cell D (p:=⟨B,i+k*3+1,none⟩) (by simp <;> omega)).trans c1,(Below.cell D (p:=⟨B,i+k*3+2,none⟩) (by simp <;> omega)).trans c2⟩
    have d8:w.heap.size+2<wr.heap.size:=by omega
    obtain⟨b8,b9,c0,c3,c4⟩:=info_parts Tryz.lM;go_wp2
    refine Qk.region (by kernel_rfl) (fun w'=>w'.cell? ⟨w.heap.size+2,0,none⟩=some (.slice f m h)/\w'.cell? ⟨w.heap.size,0,none⟩=some (.slice (some ⟨B,i,none⟩) l.length q)/\w'.cell? ⟨B,i+k*3,none⟩=some (.string d.name)/\w'.cell? ⟨B,i+k*3+1,none⟩=some (.int .i64 d.cost)/\w'.cell? ⟨B,i+k*3+2,none⟩=some (.slice Q d.steps.length R)) 19 ⟨N,H,U,c1,c2⟩ (fun j=>?_);refine aB 0 j ?_;refine aB 4 j ?_;refine aB 8 j ?_;refine ae 12 j ?_;refine ae 13 j ?_;refine ai 14 (fun K n=>?_);go_simp
    go_at_call 124
    refine (xg _ d.cost Q R d.steps b6 S.steps S.each (a7.kept (by repeat (first | apply K_.drew | apply K_.alloc | exact K_.refl _)))).mono ?_;rintro e w2 ⟨E,F,rfl,b1,k2⟩;have V:K_ wr w2:=K_.trans (by repeat (first | apply K_.drew | apply K_.alloc | exact K_.refl _)) k2;have b2:Below (w.heap.size+3) wr w2:=Below.mono V (by omega);have d9:=V.size;have e0:w.heap.size+2<w2.heap.size:=by omega
    have c5:=Kz b1;clear b1 k2;dsimp only;refine n.out _ _ (fun _=>C.o w2 b2) ?_;clear n K j;have j:=C.o w2 b2;try simp only[Act.put,upA,upB,upC]
    refine ae 15 j ?_;refine af 16 (fun K n=>?_);go_simp
    have x:K_ wr (w2.alloc (.cells #[.string d.name,.int .i64 d.cost,.slice E d.steps.length F] 79)):=V.alloc _;refine n.out _ _ (fun _=>C.o _ (Below.mono x (by omega))) ?_;clear n K j;try simp only[Act.put,upA,upB,upC]
    refine af 17 (fun K n=>?_);refine step_append_lies _ rfl (.tmp 24) (.tmp 39) 23 rfl (w.heap.size+3) 79 b8 _ 3 48 underlying23 b9 c0 c3 c4 rfl (by decide) (.slice f m h) m r (by simp[Act.eval]) (aj I.o x) ⟨w2.heap.size,0,none⟩ 1 1 [.string d.name,.int .i64 d.cost,.slice E d.steps.length F] (by simp[Act.eval]) rfl (fun c6 u hu=>by rw[JL];exact X_ w2 #[.string d.name,.int .i64 d.cost,.slice E d.steps.length F] 79 c6 u (by simpa using hu)) (lJ d E F) (by omega) (by unfold maxLen;omega) (by omega) (by simp;omega) _ rfl ?_;intro g c7 w6 b3 W c8 e1;have b4:K_ w2 (w2.alloc (.cells #[.string d.name,.int .i64 d.cost,.slice E d.steps.length F] 79)):=ag _ _;have X:=aj I.o x;have Y:=Kz (BZ.of v hz x H y.o a3.o X W);have c9:=Kz (BU x b4 J.o c5.o X W);have d0:=Kz b3;have b5:Below (w.heap.size+3) wr w6:=Y.o.below;have Z:=Y.o.out.row.at (i:=0) (by omega);have e2:=Z.2;obtain⟨vo,e3⟩:=Z.1;clear Z x b4 X b3 W c8;refine n.out _ _ (fun _=>C.o _ b5) ?_;clear n K;try simp only[Act.put,upA,upB,upC]
    have j:=C.o _ b5;refine ae 18 j ?_;refine af 19 (fun K n=>?_);go_simp
    refine n.out _ _ (fun d1=>Ki rfl d1) ?_;clear n K;try simp only[Act.put,upA,upB,upC]
    refine ay ?_;go_wp2
    go_roundw
    case rel=>
     have t:=Y.o;have ef:(l.take (k+1)).filter (bM b.toList)= (l.take k).filter (bM b.toList)++ [d]:=by rw[a9.o,Kg (by simp[bM,b0])]
     refine⟨k+1,m+1,_,c7,_,by omega,by go_num,t.kept.setCell (by simp <;> omega) _,by rw[size_setCell];exact t.size, ?_,t.res.block (Below.heap_setCell _ _ _ _ (by simp)),t.out.set _,aS t.out.row (by omega) _,by rw[ef,JH,<-L.o];rfl,aR d0.o (by simp) _, ?_⟩
     ·rw[Jr _ _ _ _ (by simp)];exact t.arg
     ·rw[ef];exact c9.o.same (t.out.same _) (by decide) (by decide) (by decide)
    case measure=>simp[intOf];omega
   ·go_wp2
    go_roundw
    case rel=>
     have e:(l.take (k+1)).filter (bM b.toList)= (l.take k).filter (bM b.toList):=by rw[a9.o,Kh (by simp[bM,b0])];simp
     exact⟨k+1,m,f,h,r,by omega,by go_num,v,hz,H,y.o,a3.o,N,by rw[e];exact L.o,I.o,by rw[e];exact J.o⟩
    case measure=>simp[intOf];omega
  ·have d2:k=l.length:=by omega
   subst d2;rw[JB] at J L;obtain⟨⟨_,x0⟩,g0⟩:=y.o.row.at (i:=0) (by omega);go_wp2
   have hR:=Jc wr (w.heap.size+1) 0 [.slice f m h] (y.o.row.there (o:=0) (m:=1) (IZ _));have G:=aR I.o (p:=⟨w.heap.size+1,0,none⟩) (by simp) (.slice f m h);have d3:=J.o.same (y.o.same (o:=0) (.slice f m h)) (by decide) (by decide) (by decide);have d4:=L.o;subst d4;exact Zx [.slice f _ h] _ results95 rfl hR underlying25 rfl Tryz.kQ rfl ⟨f,h,r,w.heap.size+3,rfl,by omega,G,d3,v.setCell (by simp) _⟩
theorem uW(h:bu l 0):fG l:=by
 have a:¬gX l:=by
  rcases h with⟨_,e⟩|⟨_,_,e⟩|⟨_,_,_,e⟩|⟨_,_,_,_,e⟩|⟨_,_,b,_,_⟩
  ·omega
  ·omega
  ·omega
  ·omega
  ·exact b
 refine Ak fun i c=>?_
 cases d:Op.bytesLess (nameAt l i) (nameAt l (i+1))
 ·exact Ki ⟨i,c,d⟩ a
 ·rfl
variable {p : Nat}
theorem AZ(b:fG l){j:Nat}(c:p<l.length)(d:j<l.length)(e:nameAt l j=nameAt l p):j=p:=by
 by_cases h:j=p
 ·exact h
 ·rcases Nat.lt_or_gt_of_ne h with a|a
  ·have:=b j p a c;rw[e,dB] at this;cases this
  ·have:=b p j a d;rw[e,dB] at this;cases this
variable {key : List UInt8}
theorem BD(k:fG l)(a:p<l.length)(e:nameAt l p=key):l.filter (bM key)=FI l p:=by
 have h:∀j (b:j<l.length),j≠p->bM key l[j]=true:=fun j b m=>by
  have c:nameAt l j=l[j].name.toList:=by unfold nameAt;simp[List.getD,b]
  simp only[bM,Bool.not_eq_true',beq_eq_false_iff_ne];intro n;exact m (AZ k a b (by rw[c,n,e]))
 have q:bM key l[p]=false:=by
  have c:nameAt l p=l[p].name.toList:=by unfold nameAt;simp[List.getD,a]
  simp[bM,<-c,e]
 have r:l=l.take p++ (l[p] :: l.drop (p+1)):=by
  rw[<-List.drop_eq_getElem_cons a,JY]
 have s:(l.take p).filter (bM key)=l.take p:=List.filter_eq_self.2 fun t d=>by
  obtain⟨i,f,rfl⟩:=Jk d;rw[Jt] at f;rw[JE];exact h i (by omega) (by omega)
 have v:(l.drop (p+1)).filter (bM key)=l.drop (p+1):=List.filter_eq_self.2 fun t d=>by
  obtain⟨i,f,rfl⟩:=Jk d;rw[List.length_drop] at f;rw[List.getElem_drop];exact h _ (by omega) (by omega)
 unfold FI
 conv=>lhs;rw[r]
 rw[List.filter_append,List.filter_cons_of_neg (by rw[q];simp),s,v]
def jg(key:List UInt8)(d:Qz):Bool:=Op.bytesLess d.name.toList key
def jC(key:List UInt8)(d:Qz):Bool:=Op.bytesLess key d.name.toList
def ko(l:List Qz)(d:Qz):List Qz:=l.filter (jg d.name.toList)++d :: l.filter (jC d.name.toList)
theorem uJ{x y:List UInt8}(h:Op.bytesLess x y=true):Op.bytesLess y x=false:=by
 cases b:Op.bytesLess y x
 ·rfl
 ·have:=dW _ _ _ h b;rw[dB] at this;cases this
theorem gN{j:Nat}(h:j<l.length):nameAt l j=l[j].name.toList:=by unfold nameAt;simp[List.getD,h]
theorem Place.less(h:Place l key p):l.filter (jg key)=l.take p:=by
 have c:(l.take p).filter (jg key)=l.take p:=List.filter_eq_self.2 fun d a=>by
  obtain⟨i,b,rfl⟩:=Jk a;rw[Jt] at b;rw[JE];have:=h.before i (by omega);rw[gN (by omega)] at this;exact this
 have e:(l.drop p).filter (jg key)=[]:=List.filter_eq_nil_iff.2 fun d a=>by
  obtain⟨i,b,rfl⟩:=Jk a;rw[List.length_drop] at b;rw[List.getElem_drop];have:=h.behind (p+i) (by omega) (by omega);rw[gN (by omega)] at this;simp[jg,this]
 conv=>lhs;rw[<-JY p l]
 rw[List.filter_append,c,e,List.append_nil]
theorem Place.ahead(h:Place l key p):(l.take p).filter (jC key)=[]:=List.filter_eq_nil_iff.2 fun e b=>by
 obtain⟨i,d,rfl⟩:=Jk b;rw[Jt] at d;rw[JE];have:=h.before i (by omega);rw[gN (by omega)] at this;simp[jC,uJ this]
theorem Place.more(_:fG l)(h:Place l key p)(c:∀j,j<l.length->nameAt l j≠key):l.filter (jC key)=l.drop p:=by
 have d:(l.drop p).filter (jC key)=l.drop p:=List.filter_eq_self.2 fun k e=>by
  obtain⟨i,f,rfl⟩:=Jk e;rw[List.length_drop] at f;rw[List.getElem_drop];have a:=h.behind (p+i) (by omega) (by omega);have b:=c (p+i) (by omega);rw[gN (by omega)] at a b;exact oJ _ _ a b
 conv=>lhs;rw[<-JY p l]
 rw[List.filter_append,h.ahead,d,List.nil_append]
theorem Place.GJ(c:fG l)(h:Place l key p)(b:p<l.length)(e:nameAt l p=key):l.filter (jC key)=l.drop (p+1):=by
 have f:(l.drop (p+1)).filter (jC key)=l.drop (p+1):=List.filter_eq_self.2 fun d j=>by
  obtain⟨i,k,rfl⟩:=Jk j;rw[List.length_drop] at k;rw[List.getElem_drop];have a:=c p (p+1+i) (by omega) (by omega);rw[e,gN (by omega)] at a;exact a
 have a:l.drop p=l[p] :: l.drop (p+1):=List.drop_eq_getElem_cons b;have m:jC key l[p]=false:=by
  rw[gN b] at e;simp[jC,e,dB]
 conv=>lhs;rw[<-JY p l]
 rw[List.filter_append,h.ahead,a,List.filter_cons_of_neg (by rw[m];simp),f,List.nil_append]
theorem Fa(a:List UInt8)(q:fG l):∃p,Place l a p:=by
 have:∀n,n<=l.length->∃p,p<=n/\(∀j,j<p->Op.bytesLess (nameAt l j) a=true)/\∀j,p<=j->j<n->Op.bytesLess (nameAt l j) a=false:=by
  intro n
  induction n with
  | zero=>exact fun _=>⟨0,IZ _,fun j c=>aP c,fun j _ c=>aP c⟩
  | succ n ih=>
   intro s;obtain⟨p,t,f,k⟩:=ih (by omega);by_cases h:p=n
   ·subst h;cases d:Op.bytesLess (nameAt l p) a
    ·refine⟨p,by omega,f,fun j b e=>?_⟩;obtain rfl:j=p:=by omega
     exact d
    ·refine⟨p+1,IZ _,fun j c=>?_,fun j b e=>by omega⟩;by_cases h:j=p
     ·rw[h];exact d
     ·exact f j (by omega)
   ·refine⟨p,by omega,f,fun j b e=>?_⟩;by_cases r:j=n
    ·subst r;cases d:Op.bytesLess (nameAt l j) a
     ·rfl
     ·have i:=q p j (by omega) (by omega);have m:=k p (IZ _) (by omega);rw[dW _ _ _ i d] at m;cases m
    ·exact k j b (by omega)
 obtain⟨p,b,e,i⟩:=this l.length (IZ _);exact⟨p,b,e,i⟩
theorem lY(a:List UInt8)(b:fG l):l.filter (bM a)=l.filter (jg a)++l.filter (jC a):=by
 obtain⟨p,c⟩:=Fa a b;by_cases h:p<l.length/\nameAt l p=a
 ·rw[BD b h.1 h.2,c.less,c.GJ b h.1 h.2]
  rfl
 ·have f:∀j,j<l.length->nameAt l j≠a:=fun j i e=>by
   have:=c.only b i e;subst this;exact h ⟨i,e⟩
  rw[c.less,c.more b f,JY];refine List.filter_eq_self.2 fun d m=>?_
  obtain⟨n,k,rfl⟩:=Jk m;have:=f n k;rw[gN k] at this;simpa[bM] using this
def nM(l:List Qz)(d:Qz):Nat:=(l.filter (jg d.name.toList)).length
theorem o_(a:fG l):(ko l d).length= (l.filter (bM d.name.toList)).length+1:=by
 rw[lY _ a];simp[ko];omega
theorem Dv(a:fG l):nM l d<=(l.filter (bM d.name.toList)).length:=by
 rw[lY _ a];simp[nM]
theorem EI(l:List Qz)(d:Qz):(ko l d).getD (nM l d) Qz.zero=d:=by simp[ko,nM,List.getD]
theorem Dq{x:Qz}(h:x∈ko l d):x=d\/x∈l:=by
 simp only[ko,Jh,JN,List.mem_filter] at h;rcases h with h|h|h
 ·exact .inr h.1
 ·exact .inl h
 ·exact .inr h.1
theorem C_(h:m<l.length):l.take (m+1)=l.take m++ [l.getD m Qz.zero]:=by
 rw[Jf h];simp[List.getD,h]
def yQ(l:List Qz)(d:Qz)(c:Int)(r:List Qz):Prop:=
 (¬bu l 0/\c=1/\r=[])\/(bu l 0/\(¬iI d.name\/¬fZ ⟨d.cost,d.steps⟩)/\c=2/\r=[])\/(bu l 0/\iI d.name/\fZ ⟨d.cost,d.steps⟩/\60<(ko l d).length/\c=3/\r=[])\/
 (bu l 0/\iI d.name/\fZ ⟨d.cost,d.steps⟩/\(ko l d).length<=60/\c=0/\r=ko l d)
theorem yQ.mem{r:List Qz}{c:Int}(h:yQ l d c r){x:Qz}(a:x∈r):x=d\/x∈l:=by
 rcases h with⟨_,_,rfl⟩|⟨_,_,_,rfl⟩|⟨_,_,_,_,_,rfl⟩|⟨_,_,_,_,_,rfl⟩
 ·cases a
 ·cases a
 ·cases a
 ·exact Dq a
theorem yQ.len{r:List Qz}{c:Int}(h:yQ l d c r):r.length<=60:=by
 rcases h with⟨_,_,rfl⟩|⟨_,_,_,rfl⟩|⟨_,_,_,_,_,rfl⟩|⟨h,_,_,b,_,rfl⟩
 ·simp
 ·simp
 ·simp
 ·exact b
def kH(l:List Qz)(d:Qz)(w w':KH)(e:Ending):Prop:=
 ∃a cap c r xs base,e= .returned (.tuple #[.agg #[.slice a r.length cap],.int .i64 c])/\yQ l d c r/\w.heap.size<=base/\w'.ownsRow base 79 3 (.slice a r.length cap) r.length xs/\cK w' xs r/\K_ w w'
variable {w' : KH}
theorem kH.none{e:Ending}(c:Int)(a:e= .returned (.tuple #[.agg #[.slice none 0 0],.int .i64 c]))(h:yQ l d c [])(k:K_ w w'):kH l d w w' e:=⟨Option.none,0,c,[],[],_,a,h,IZ _,JP _ _ _ _,cK.nil _,k⟩
theorem ak.qi{t:TypeId}{b:Nat}(h:Xj b (b+1) w w')(d:au w b t n):ak t w w':=by
 intro x i u j f a;rw[h.block x (aN a) ?_]
 ·exact a
 ·obtain⟨k,c,_⟩:=d;by_cases e:x=b
  ·subst e;rw[a] at c;simp only[JI,Obj.cells.injEq] at c;exact Ki c.2.1 f
  ·omega
theorem BH(f:fG l)(k:Nat)(e:k<(l.filter (bM d.name.toList)).length):
  (k<nM l d->Op.bytesLess ((l.filter (bM d.name.toList)).getD k Qz.zero).name.toList d.name.toList=true/\(ko l d).getD k Qz.zero= (l.filter (bM d.name.toList)).getD k Qz.zero)/\
  (nM l d<=k->(Op.bytesLess ((l.filter (bM d.name.toList)).getD k Qz.zero).name.toList d.name.toList=false/\(((l.filter (bM d.name.toList)).getD k Qz.zero).name.toList == d.name.toList)=false)/\(ko l d).getD (k+1) Qz.zero= (l.filter (bM d.name.toList)).getD k Qz.zero):=by
 rw[lY _ f] at e⊢;unfold ko nM;rw[JH] at e;constructor
 ·intro h;have a:(l.filter (jg d.name.toList)++l.filter (jC d.name.toList)).getD k Qz.zero= (l.filter (jg d.name.toList))[k]:=by simp[List.getD,JU h,h]
  rw[a];refine⟨?_,by simp[List.getD,JU h,h]⟩;have:=Ji h;exact (List.mem_filter.1 this).2
 ·intro h;have b:k-(l.filter (jg d.name.toList)).length<(l.filter (jC d.name.toList)).length:=by omega
  have a:(l.filter (jg d.name.toList)++l.filter (jC d.name.toList)).getD k Qz.zero= (l.filter (jC d.name.toList))[k-(l.filter (jg d.name.toList)).length]:=by simp[List.getD,JV h,b]
  rw[a];have c:Op.bytesLess d.name.toList (l.filter (jC d.name.toList))[k-(l.filter (jg d.name.toList)).length].name.toList=true:=(List.mem_filter.1 (Ji b)).2;refine⟨⟨uJ c, ?_⟩, ?_⟩
  ·rw[beq_eq_false_iff_ne];intro i;rw[i,dB] at c;cases c
  have j:k+1-(l.filter (jg d.name.toList)).length= (k-(l.filter (jg d.name.toList)).length)+1:=by omega
  simp[List.getD,JV (show (l.filter (jg d.name.toList)).length<=k+1 by omega),j,b]
def Gt(l:List Qz)(d:Qz):List Qz:=l.filter (bM d.name.toList)
theorem cK.at{base:Nat}{h:KG}{q:Nat}(d:w.ownsRow base 79 3 (.slice h n q) n xs)(i:cK w xs l){k:Nat}(r:k<l.length):
  ∃g f fr a c,h=some ⟨g,0,none⟩/\w.heap[g]? =some (Obj.cells f 79 fr)/\w.cell? ⟨g,k*3,none⟩=some (.string (l.getD k Qz.zero).name)/\w.cell? ⟨g,k*3+1,none⟩=some (.int .i64 (l.getD k Qz.zero).cost)/\
   w.cell? ⟨g,k*3+2,none⟩=some (.slice a (l.getD k Qz.zero).steps.length c)/\cB w (.slice a (l.getD k Qz.zero).steps.length c) (l.getD k Qz.zero).steps:=by
 have v:n=l.length:=by have x:=d.1;have y:=i.1;omega
 rcases d.2 with⟨_,A⟩|⟨g,B,f,e,C,s,D,_,_,_⟩
 ·omega
 ·simp only[JJ] at e;obtain⟨rfl,_,rfl⟩:=e;obtain⟨E,e,m⟩:=i.2 k r;obtain⟨a,c,rfl⟩:=m.slice;have b:∀j u,((xs.drop (k*3)).take 3)[j]? =some u->j<3->w.cell? ⟨g,k*3+j,none⟩=some u:=fun j u p t=>by
   rw[List.getElem?_take,Kg t,List.getElem?_drop] at p;have:=d.cells (g:=g) rfl _ _ p;rw[JL,JA] at this;exact this
  rw[e] at b;exact⟨g,f,_,a,c,rfl,s,b 0 _ rfl (by decide),b 1 _ rfl (by decide),b 2 _ rfl (by decide),m⟩
structure il (wc wr:KH) (outb:Nat) (T:List Qz) (m:Nat) (av:KG) (cv:Nat) (xs:List KI):Prop where
 kb:Xj outb (outb+1) wc wr
 row:au wr outb 25 1
 cell:wr.cell? ⟨outb,0,none⟩=some (.slice av m cv)
 own:wr.ownsRow wc.heap.size 79 3 (.slice av m cv) m xs
 pack:cK wc xs (T.take m)
variable {T : List Qz} {outb : Nat} {wc : KH}
theorem il.grown{W:KH}(h:il wc wr outb T m av cv xs)(a:K_ wr W)(c:W.grownBy w6 (Value.slice av m cv).ownBlock):Below wc.heap.size wr w6:=
 have e:=h.kb.size;have f:=a.size
 (Below.mono a (by omega)).trans (Below.grown (Below.refl _ _) c (by omega) (fun g d=>((aj h.own a).lt g d).1))
theorem il.next{W:KH}{a:Nat}{b:KG}{x:Qz}{c:KG}{d:Nat}(h:il wc wr outb T m av cv xs)(e:outb<wc.heap.size)(j:K_ wr W)(k:W.grownBy w6 (Value.slice av m cv).ownBlock)
 (l:w6.ownsRow wc.heap.size 79 3 (.slice b (m+1) a) (m+1) (xs++ [.string x.name,.int .i64 x.cost,.slice c x.steps.length d])) (n:m<T.length) (p:T.getD m Qz.zero=x) (q:cB wc (.slice c x.steps.length d) x.steps):
  il wc (w6.setCell ⟨outb,0,none⟩ (.slice b (m+1) a)) outb T (m+1) b a (xs++ [.string x.name,.int .i64 x.cost,.slice c x.steps.length d]):=by
 have f:=h.grown j k;have i:au w6 outb 25 1:=h.row.block (f.block outb e);refine⟨(h.kb.below f).setCell (IZ _) (Jw _) _,i.set _,aS i.row (by omega) _,aR l e _, ?_⟩;rw[C_ n,p];exact h.pack.snoc q
theorem il.drewN(h:il wc wr outb T m av cv xs)(n:Nat):il wc (wr.drewN n) outb T m av cv xs:=
 ⟨⟨h.kb.os,h.kb.tape,h.kb.output,h.kb.size,h.kb.block⟩,h.row,h.cell,h.own,h.pack⟩
theorem il.fin{b:KH}{a:Nat}(h:il wc b outb T n av cv xs)(j:au wc outb 25 1)(c:au wc a 25 1)(x:a≠outb)(K:K_ w wc)(k:w.heap.size<=a)(h2:w.heap.size<=outb)
 (q:T.length=n) (e:T=ko l d) (c1:bu l 0) (r:iI d.name) (c3:fZ ⟨d.cost,d.steps⟩) (s:n<=60):
  (b.setCell ⟨a,0,none⟩ (.slice av n cv)).rangeAt a 0 [.slice av n cv]/\kH l d w (b.setCell ⟨a,0,none⟩ (.slice av n cv)) (.returned (.tuple #[.agg #[.slice av n cv],.int .i64 0])):=by
 have f:au b a 25 1:=c.block (h.kb.block a c.lt (by omega));have t:=aR h.own (p:=⟨a,0,none⟩) c.lt (.slice av n cv);have i:=h.pack;rw[JC (by omega)] at i;have v:=(i.same (ak.qi h.kb j) (by decide) (by decide) (by decide)).same (f.same (o:=0) (.slice av n cv)) (by decide) (by decide) (by decide);refine⟨Jc b a 0 [.slice av n cv] (f.row.there (o:=0) (m:=1) (IZ _)), ?_⟩;subst q;exact⟨av,cv,0,T,xs,wc.heap.size,rfl,.inr (.inr (.inr ⟨c1,r,c3,e ▸ s,rfl,e⟩)),K.size,t,v,(h.kb.kept K h2).setCell k _⟩
structure IB (W6 Wl:KH) (d:Qz) (oneb:Nat) (a2:KG) (ca2:Nat):Prop where
 kept:K_ W6 Wl
 ge:W6.heap.size<=oneb
 lt:oneb<Wl.heap.size
 name:Wl.cell? ⟨oneb,0,none⟩=some (.string d.name)
 cost:Wl.cell? ⟨oneb,1,none⟩=some (.int .i64 d.cost)
 steps:Wl.cell? ⟨oneb,2,none⟩=some (.slice a2 d.steps.length ca2)
 one:cB Wl (.slice a2 d.steps.length ca2) d.steps
def IU(W6:KH)(d:Qz)(s8:KI)(Wl:KH):Prop:=∃oneb a2 ca2,s8= .pointer (some ⟨oneb,0,none⟩)/\IB W6 Wl d oneb a2 ca2
theorem Fs(w:KH)(a0:KG)(c0:Nat)(l:List Qz)(d:Qz)(aA:KG)(ca:Nat)(d2:mN<=1000)(hl:l.length<=1000)(hs:∀d∈l,d.TinyN mN)(e8:d.TinyN mN)(hS:qI w a0 l)(hN:bY w a0 l)(hA:jE w aA d.steps)(j1:Steps w aA d.steps):
  Calls prog 92 #[.agg #[.slice a0 l.length c0],.agg #[.string d.name,.int .i64 d.cost,.slice aA d.steps.length ca]] w fun e w'=>kH l d w w' e:=by
 have j2:l.length<=maxLen:=by unfold maxLen;omega
 have hf:∀e9∈l,e9.Fits:=fun e9 j3=>(hs e9 j3).fits d2
 have f0:=e8.fits d2;go_enter func92,ntmps92
 go_wp2_with fail
 refine (gy _ a0 c0 l j2 hf (hN.kept (by repeat (first | apply K_.alloc | exact K_.refl _)))).mono ?_;rintro e w1 ⟨⟨c,rfl,hc⟩,k1⟩;have K1:K_ w w1:=K_.trans (by repeat (first | apply K_.alloc | exact K_.refl _)) k1;have z1:=k1.size;simp only[JG] at z1;have q0:=xM (w:=w) (K_.trans ((ag _ _).alloc _) k1);have nn:=Dx (w:=w.alloc (.cells #[.slice a0 l.length c0] 25)) (K_.trans (ag _ _) k1);simp only[JG] at nn;obtain⟨n0,n1,n2⟩:=nn;have f1:au w1 (w.heap.size+2) 25 1:=au.kept (by have:=au.made ((w.alloc (.cells #[.slice a0 l.length c0] 25)).alloc (.cells #[.string d.name,.int .i64 d.cost,.slice aA d.steps.length ca] 79)) #[.slice none 0 0] 25;simpa using this) k1;obtain⟨⟨_,x0⟩,j4⟩:=f1.row.at (i:=0) (by omega);have⟨d3,HC⟩:=aD f1 hc;clear f1 hc k1;by_cases f2:c=0
 ·subst f2;have j5:w.heap.size<w1.heap.size:=by omega
  have f3:w.heap.size+1<w1.heap.size:=by omega
  have l7:w.heap.size+2<w1.heap.size:=by omega
  go_wp2_with fail
  refine (lZ _ d.name f0.name).mono ?_;rintro e w2 ⟨a9,rfl⟩;rcases a9.cases with⟨rfl,c1⟩|⟨rfl,c2⟩
  ·have HY:=Kz c1;clear c1 a9;go_wp2_with fail
   refine (fq _ d.cost aA ca d.steps f0.steps f0.each (j1.kept K1)).mono ?_;rintro e w3 ⟨a9,k3⟩;have q3:=(k3.cell (o:=0) j5).trans q0;have p0:=(k3.cell (o:=0) f3).trans n0;have p1:=(k3.cell (o:=1) f3).trans n1;have p2:=(k3.cell (o:=2) f3).trans n2;have d4:=Kz (d3.o.kept k3);have K3:=K1.trans k3;have z3:=k3.size;obtain⟨⟨_,y0⟩,j6⟩:=d4.o.row.at (i:=0) (by omega);clear q0 n0 n1 n2 x0 j4 d3 K1 k3;rcases a9.cases with⟨rfl,c1⟩|⟨rfl,c2⟩
   ·have HM:=Kz c1;clear c1 a9;have j7:w.heap.size<w3.heap.size:=by omega
    have f4:w.heap.size+1<w3.heap.size:=by omega
    have l8:w.heap.size+2<w3.heap.size:=by omega
    have d5:=Kz (uW HC.o);go_wp2_with fail
    refine (pM _ a0 c0 l d.name d2 hl hs (hS.kept K3)).mono ?_;rintro e a ⟨b0,D,l9,m0,rfl,m1,f5,f6,k4⟩;obtain⟨old,d6⟩:=ah (Gt l d);rw[show l.filter (bM d.name.toList)=old from d6.symm] at f5 f6⊢;have m2:old.length<=l.length:=by rw[d6];exact List.length_filter_le _ _
    have⟨h1,h3,h4⟩:=eB d6 f5 f6;have K4:=K3.trans k4;have q4:=(k4.cell (o:=0) j7).trans q3;have r0:=(k4.cell (o:=0) f4).trans p0;have r1:=(k4.cell (o:=1) f4).trans p1;have r2:=(k4.cell (o:=2) f4).trans p2;have d7:=Kz (d4.o.kept k4);have z4:=k4.size;obtain⟨⟨_,v0⟩,u0⟩:=d7.o.row.at (i:=0) (by omega);clear d6 f5 f6 q3 p0 p1 p2 y0 j6 d4 K3 k4;have m3:w.heap.size<a.heap.size:=by omega
    have d8:w.heap.size+1<a.heap.size:=by omega
    have m4:w.heap.size+2<a.heap.size:=by omega
    by_cases m5:60<=old.length
    ·have j8:(60:Int)<=(old.length:Int):=by omega
     go_wp2
     have j9:=Jc a (w.heap.size+2) 0 [.slice none 0 0] (d7.o.row.there (o:=0) (m:=1) (IZ _));have k0:((a.setCell ⟨w.heap.size+2,0,none⟩ (.slice none 0 0)).alloc (.cells #[.slice b0 old.length D] 25)).rangeAt (w.heap.size+2) 0 [.slice none 0 0]:=K_.range (ag _ _) (by rw[size_setCell];omega) j9;refine bO [.slice none 0 0] _ (.int .i64 3) results92 rfl k0 underlying25 rfl Tryz.kQ rfl rfl (kH.none 3 rfl (.inr (.inr (.inl ⟨HC.o,HY.o,HM.o, ?_,rfl,rfl⟩))) ?_)
     ·rw[o_ d5.out,show l.filter (bM d.name.toList)=old from h1.o.symm];omega
     ·exact (K4.setCell (by simp <;> omega) _).alloc _
    ·have j8:¬(60:Int)<=(old.length:Int):=by omega
     have r:Hid (∀w',K_ ((a.alloc (.cells #[.slice b0 old.length D] 25)).alloc (.cells #[.slice none 0 0] 25)) w'->(fun w'=>w'.cell? ⟨w.heap.size+1,0,none⟩=some (.string d.name)/\w'.cell? ⟨w.heap.size+1,1,none⟩=some (.int .i64 d.cost)/\w'.cell? ⟨w.heap.size+1,2,none⟩=some (.slice aA d.steps.length ca)) w'):=fun w' kk=>by
      have k5:K_ a w':=K_.trans ((ag _ _).alloc _) kk;exact⟨(k5.cell d8).trans r0,(k5.cell d8).trans r1,(k5.cell d8).trans r2⟩
     have KA:K_ w ((a.alloc (.cells #[.slice b0 old.length D] 25)).alloc (.cells #[.slice none 0 0] 25)):=(K4.alloc _).alloc _;go_upto_region 9 with fail
     go_cut [8] from 36 to 41 (fun s8 wx=>IU ((a.alloc (.cells #[.slice b0 old.length D] 25)).alloc (.cells #[.slice none 0 0] 25)) d s8 wx)
     case first=>
      go_region_held (fun w'=>w'.cell? ⟨w.heap.size+1,0,none⟩=some (.string d.name)/\w'.cell? ⟨w.heap.size+1,1,none⟩=some (.int .i64 d.cost)/\w'.cell? ⟨w.heap.size+1,2,none⟩=some (.slice aA d.steps.length ca)) (exact aW r _ (by repeat (first | (refine K_.setCell ?_ (by simp <;> omega) _) | (with_reducible exact K_.refl _) | (with_reducible assumption) | apply K_.drew | apply K_.alloc))) ((go_at_call 124;refine (xg _ d.cost aA ca d.steps d2 e8.steps e8.each (hA.kept (KA.trans (by repeat (first | (with_reducible exact K_.refl _) | (with_reducible assumption) | apply K_.drew | apply K_.alloc))))).mono ?_;rintro e w7 ⟨s,v,rfl,h5,h6⟩;have k7:K_ ((a.alloc (.cells #[.slice b0 old.length D] 25)).alloc (.cells #[.slice none 0 0] 25)) w7:=K_.trans (by repeat (first | (with_reducible exact K_.refl _) | (with_reducible assumption) | apply K_.drew | apply K_.alloc)) h6;have h7:=Kz h5;clear h5;(first | (have b8:=yU (t:=79) (c:= #[.string ⟨#[]⟩,.int .i64 0,.slice none 0 0]) h6;simp only[JG] at b8;have c3:=Kz b8;obtain⟨⟨_,t0⟩,V⟩:=b8.row.at (i:=0) (by decide);obtain⟨⟨_,t1⟩,W⟩:=b8.row.at (i:=1) (by decide);obtain⟨⟨_,t2⟩,m6⟩:=b8.row.at (i:=2) (by decide);clear b8) | skip)))
      ·go_wp2
       go_meet
       refine⟨w7.heap.size,s,v,rfl,k7.alloc _,k7.size,by simp,by simp,by simp,by simp, ?_⟩;exact h7.o.same (u:=79) (.aC (ag _ _)) (by decide) (by decide) (by decide)
      ·go_wp2
       go_meet
       have y:=Jc w7 (a.heap.size+1+1) 0 [.string d.name,.int .i64 d.cost,.slice s d.steps.length v] (c3.o.row.there (o:=0) (m:=3) (IZ _));refine⟨a.heap.size+1+1,s,v,rfl,((k7.setCell (by simp) _).setCell (by simp) _).setCell (by simp) _,by simp,by simp only[size_setCell];exact c3.o.lt,y 0 _ rfl,y 1 _ rfl,y 2 _ rfl, ?_⟩;exact h7.o.same (((c3.o.same _).trans ((c3.o.set _).same _)).trans (((c3.o.set _).set _).same _)) (by decide) (by decide) (by decide)
     case rest=>
      obtain⟨k2,s,v,rfl,a2⟩:=hcut;have c4:K_ a wc:=K_.trans ((ag _ _).alloc _) a2.kept;have zc:=a2.kept.size;have zo:=a2.ge;simp only[JG] at zc zo;have co:=xM (w:=a) (K_.trans (ag _ _) a2.kept);have cu:=xM (w:=a.alloc (.cells #[.slice b0 old.length D] 25)) a2.kept;simp only[JG] at cu;have cn:=(c4.cell (o:=0) d8).trans r0;have f7:=yN (X:=a.alloc (.cells #[.slice b0 old.length D] 25)) a2.kept;simp only[JG] at f7;have b1:Hid (au wc (a.heap.size+1) 25 1):=f7;have d9:=Kz (d7.o.kept c4);have k6:=Kz (aj h3.o c4);have k8:=Kz (h4.o.same (ak.aC (t:=79) c4) (by decide) (by decide) (by decide));have G:=Kz a2;obtain⟨a3,hT⟩:=ah (ko l d);obtain⟨Y,e0⟩:=ah (nM l d);have e1:l.filter (bM d.name.toList)=old:=h1.o.symm;have b2:Hid (a3.length=old.length+1):=by rw[hT,<-e1];exact o_ d5.out
      have m7:Y<=old.length:=by rw[e0,<-e1];exact Dv d5.out
      have h8:Hid (a3.getD Y Qz.zero=d):=by rw[hT,e0];exact EI l d
      have k9:Hid (∀k,k<old.length->(k<Y->Op.bytesLess (old.getD k Qz.zero).name.toList d.name.toList=true/\a3.getD k Qz.zero=old.getD k Qz.zero)/\(Y<=k->(Op.bytesLess (old.getD k Qz.zero).name.toList d.name.toList=false/\((old.getD k Qz.zero).name.toList == d.name.toList)=false)/\a3.getD (k+1) Qz.zero=old.getD k Qz.zero)):=by
       rw[hT,e0,<-e1];exact fun k hk=>BH d5.out k hk
      have HT:=Kz hT;clear hT e0 e1 a2 f7 h3 h4 d7 v0 u0 q4 r KA;have K5:=K4.trans c4;go_wp2
      go_loopw [9,10] (fun dn f8 wr=>∃(k e2:Nat) (J:KG) (L:Nat) (P:List KI),k<=old.length/\f8= .int .i64 k/\((dn= .bool true/\Y<k/\e2=k+1)\/(dn= .bool false/\k<=Y/\e2=k))/\il wc wr (a.heap.size+1) a3 e2 J L P) (fun _ f8 _=>old.length-(intOf f8).toNat)
      case atStart=>exact⟨0,0,none,0,[],Ja _,rfl,.inr ⟨rfl,Ja _,rfl⟩,Xj.refl _ _ _,b1.o,cu,JP _ _ _ _,cK.nil _⟩
      case round=>
       obtain⟨k,e2,J,L,P,hk,rfl,h9,a4⟩:=hrel;have l0:=Kz (ak.qi a4.kb b1.o);have zr:=a4.kb.size;have f9:=a4.kb.same (l2:=0) (h2:=a.heap.size+1) (by omega);have e4:=a4.kb.same (l2:=a.heap.size+1+1) (h2:=wc.heap.size) (by omega);have eo:=(f9.cell (o:=0) (Ja _) (by omega:a.heap.size<a.heap.size+1) (by omega)).trans co;have en:=(f9.cell (o:=0) (Ja _) (by omega:w.heap.size+1<a.heap.size+1) (by omega)).trans cn;have g0:=(e4.cell (o:=0) zo G.o.lt G.o.lt).trans G.o.name;have g1:=(e4.cell (o:=1) zo G.o.lt G.o.lt).trans G.o.cost;have e3:=(e4.cell (o:=2) zo G.o.lt G.o.lt).trans G.o.steps;have ol:=G.o.lt;have eu:=a4.cell;obtain⟨⟨_,l1⟩,g2⟩:=a4.row.row.at (i:=0) (by omega);have E:=Kz a4;clear a4 f9 e4 l1;have g3:a.heap.size+1<wr.heap.size:=by omega
       have g4:a.heap.size<wr.heap.size:=by omega
       have m8:k2<wr.heap.size:=by omega
       have m9:w.heap.size+1<wr.heap.size:=by omega
       by_cases i0:k<old.length
       ·obtain⟨g,e5,fr,i,j,rfl,n,F,H,I,g5⟩:=cK.at k6.o k8.o i0;have g6:=l0.out g e5 _ fr (by decide) n;have n3:=aN g6;have HG:=Kz (k9.o k i0);obtain⟨x,hx⟩:=ah (old.getD k Qz.zero);rw[<-hx] at F H I g5 HG;have Z:=Kz (And.intro F (And.intro H I));have D0:Hid (wr.cell? ⟨g,k*3,none⟩=some (.string x.name)):=by show _=_;rw[Jl (g6.trans n.symm)];exact F
        have g7:=D0.out;have n4:(k:Int)<(old.length:Int):=by omega
        have g8:=Kz g5;clear hx g5 F H I g6;rcases h9 with⟨rfl,g9,hm⟩|⟨rfl,g9,h0⟩
        ·subst hm;have c5:=Kz (HG.o.2 (by omega)).2;go_wp2
         go_quiet (fail)
         obtain⟨b,M⟩:=ah (wr.drewN nq);rw[<-M];have m:il wc b (a.heap.size+1) a3 (k+1) J L P:=by rw[M];exact E.o.drewN nq
         clear M eo en g0 g1 e3 eu g2 g7;have a5:=ak.qi m.kb b1.o;have A:=a5 g e5 _ fr (by decide) n;have a6:=m.kb.same (l2:=0) (h2:=a.heap.size+1) (by omega);have V:=(a6.cell (o:=0) (Ja _) (by omega:a.heap.size<a.heap.size+1) (by omega)).trans co;have F:b.cell? ⟨g,k*3,none⟩=some (.string x.name):=by rw[Jl (A.trans n.symm)];exact Z.out.1
         have H:b.cell? ⟨g,k*3+1,none⟩=some (.int .i64 x.cost):=by rw[Jl (A.trans n.symm)];exact Z.out.2.1
         have I:b.cell? ⟨g,k*3+2,none⟩=some (.slice i x.steps.length j):=by rw[Jl (A.trans n.symm)];exact Z.out.2.2
         have W:=m.cell;have zq:=m.kb.size;have B:=Kz m;have gl:=aN n;have g3:a.heap.size+1<b.heap.size:=by omega
         have g4:a.heap.size<b.heap.size:=by omega
         have i1:g<b.heap.size:=by omega
         have r:Hid (∀w',Below wc.heap.size b w'->(fun w'=>w'.cell? ⟨a.heap.size+1,0,none⟩=some (.slice J (k+1) L)/\w'.cell? ⟨a.heap.size,0,none⟩=some (.slice (some ⟨g,0,none⟩) old.length D)/\w'.cell? ⟨g,k*3,none⟩=some (.string x.name)/\w'.cell? ⟨g,k*3+1,none⟩=some (.int .i64 x.cost)/\w'.cell? ⟨g,k*3+2,none⟩=some (.slice i x.steps.length j)) w'):=fun w' q=>⟨(Below.cell q (p:=⟨a.heap.size+1,0,none⟩) (by simp <;> omega)).trans W,(Below.cell q (p:=⟨a.heap.size,0,none⟩) (by simp <;> omega)).trans V,(Below.cell q (p:=⟨g,k*3,none⟩) (by simp <;> omega)).trans F,(Below.cell q (p:=⟨g,k*3+1,none⟩) (by simp <;> omega)).trans H,(Below.cell q (p:=⟨g,k*3+2,none⟩) (by simp <;> omega)).trans I⟩
         clear m a5 A a6;obtain⟨Q,R,S,T,U⟩:=info_parts Tryz.lM;go_wp2
         refine Qk.region (by kernel_rfl) (fun w'=>w'.cell? ⟨a.heap.size+1,0,none⟩=some (.slice J (k+1) L)/\w'.cell? ⟨a.heap.size,0,none⟩=some (.slice (some ⟨g,0,none⟩) old.length D)/\w'.cell? ⟨g,k*3,none⟩=some (.string x.name)/\w'.cell? ⟨g,k*3+1,none⟩=some (.int .i64 x.cost)/\w'.cell? ⟨g,k*3+2,none⟩=some (.slice i x.steps.length j)) 10 ⟨W,V,F,H,I⟩ (fun h=>?_);refine aB 0 h ?_;refine ae 4 h ?_;refine ae 5 h ?_;refine ae 6 h ?_;refine af 7 (fun K f=>?_);go_simp
         have C:K_ b (b.alloc (.cells #[.string x.name,.int .i64 x.cost,.slice i x.steps.length j] 79)).drew:=(ag _ _).drew;refine f.out _ _ (fun _=>r.o _ (Below.mono C (by omega))) ?_;clear f K h;try simp only[Act.put,upA,upB,upC]
         refine af 8 (fun K f=>?_);refine step_append_lies _ rfl (.tmp 69) (.tmp 75) 23 rfl wc.heap.size 79 Q _ 3 48 underlying23 R S T U rfl (by decide) (.slice J (k+1) L) (k+1) P (by simp[Act.eval]) (aj B.o.own C) ⟨b.heap.size,0,none⟩ 1 1 [.string x.name,.int .i64 x.cost,.slice i x.steps.length j] (by simp[Act.eval]) rfl (fun a1 u hu=>by rw[JL];exact X_ b #[.string x.name,.int .i64 x.cost,.slice i x.steps.length j] 79 a1 u (by simpa using hu)) (lJ x i j) (by omega) (by unfold maxLen;omega) (by omega) (by simp;omega) _ rfl ?_;intro i2 c6 w8 a7 N c7 i3;have O:=B.o.grown C N;have a8:au w8 (a.heap.size+1) 25 1:=B.o.row.block (O.block _ (by omega));obtain⟨⟨_,i4⟩,i5⟩:=a8.row.at (i:=0) (by omega);have⟨c8,c9⟩:=aD a7 N;clear a7 N c7 a8;refine f.out _ _ (fun _=>r.o _ O) ?_;clear f K;try simp only[Act.put,upA,upB,upC]
         have h:=r.o _ O;refine ae 9 h ?_;refine af 10 (fun K f=>?_);go_simp
         refine f.out _ _ (fun b3=>Ki rfl b3) ?_;clear f K;try simp only[Act.put,upA,upB,upC]
         refine ay ?_;go_wp2
         go_roundw
         case rel=>exact⟨k+1,k+1+1,_,c6,_,by omega,by go_num,.inl ⟨rfl,by omega,by omega⟩,il.next B.o (by omega) C c9.o c8.o (by have:=b2.o;omega) c5.o g8.o⟩
         case measure=>simp[intOf];omega
        ·have hm:=h0.symm;subst hm;by_cases i6:k<Y
         ·have l3:=(HG.o.1 i6).1;have c5:=Kz (HG.o.1 i6).2;go_wp2
          go_quiet (fail)
          obtain⟨b,M⟩:=ah (wr.drewN nq);rw[<-M];have m:il wc b (a.heap.size+1) a3 (k) J L P:=by rw[M];exact E.o.drewN nq
          clear M eo en g0 g1 e3 eu g2 g7;have a5:=ak.qi m.kb b1.o;have A:=a5 g e5 _ fr (by decide) n;have a6:=m.kb.same (l2:=0) (h2:=a.heap.size+1) (by omega);have V:=(a6.cell (o:=0) (Ja _) (by omega:a.heap.size<a.heap.size+1) (by omega)).trans co;have F:b.cell? ⟨g,k*3,none⟩=some (.string x.name):=by rw[Jl (A.trans n.symm)];exact Z.out.1
          have H:b.cell? ⟨g,k*3+1,none⟩=some (.int .i64 x.cost):=by rw[Jl (A.trans n.symm)];exact Z.out.2.1
          have I:b.cell? ⟨g,k*3+2,none⟩=some (.slice i x.steps.length j):=by rw[Jl (A.trans n.symm)];exact Z.out.2.2
          have W:=m.cell;have zq:=m.kb.size;have B:=Kz m;have gl:=aN n;have g3:a.heap.size+1<b.heap.size:=by omega
          have g4:a.heap.size<b.heap.size:=by omega
          have i1:g<b.heap.size:=by omega
          have r:Hid (∀w',Below wc.heap.size b w'->(fun w'=>w'.cell? ⟨a.heap.size+1,0,none⟩=some (.slice J (k) L)/\w'.cell? ⟨a.heap.size,0,none⟩=some (.slice (some ⟨g,0,none⟩) old.length D)/\w'.cell? ⟨g,k*3,none⟩=some (.string x.name)/\w'.cell? ⟨g,k*3+1,none⟩=some (.int .i64 x.cost)/\w'.cell? ⟨g,k*3+2,none⟩=some (.slice i x.steps.length j)) w'):=fun w' q=>⟨(Below.cell q (p:=⟨a.heap.size+1,0,none⟩) (by simp <;> omega)).trans W,(Below.cell q (p:=⟨a.heap.size,0,none⟩) (by simp <;> omega)).trans V,(Below.cell q (p:=⟨g,k*3,none⟩) (by simp <;> omega)).trans F,(Below.cell q (p:=⟨g,k*3+1,none⟩) (by simp <;> omega)).trans H,(Below.cell q (p:=⟨g,k*3+2,none⟩) (by simp <;> omega)).trans I⟩
          clear m a5 A a6;obtain⟨Q,R,S,T,U⟩:=info_parts Tryz.lM;go_wp2
          refine Qk.region (by kernel_rfl) (fun w'=>w'.cell? ⟨a.heap.size+1,0,none⟩=some (.slice J (k) L)/\w'.cell? ⟨a.heap.size,0,none⟩=some (.slice (some ⟨g,0,none⟩) old.length D)/\w'.cell? ⟨g,k*3,none⟩=some (.string x.name)/\w'.cell? ⟨g,k*3+1,none⟩=some (.int .i64 x.cost)/\w'.cell? ⟨g,k*3+2,none⟩=some (.slice i x.steps.length j)) 10 ⟨W,V,F,H,I⟩ (fun h=>?_);refine aB 0 h ?_;refine ae 4 h ?_;refine ae 5 h ?_;refine ae 6 h ?_;refine af 7 (fun K f=>?_);go_simp
          have C:K_ b (b.alloc (.cells #[.string x.name,.int .i64 x.cost,.slice i x.steps.length j] 79)).drew:=(ag _ _).drew;refine f.out _ _ (fun _=>r.o _ (Below.mono C (by omega))) ?_;clear f K h;try simp only[Act.put,upA,upB,upC]
          refine af 8 (fun K f=>?_);refine step_append_lies _ rfl (.tmp 69) (.tmp 75) 23 rfl wc.heap.size 79 Q _ 3 48 underlying23 R S T U rfl (by decide) (.slice J (k) L) (k) P (by simp[Act.eval]) (aj B.o.own C) ⟨b.heap.size,0,none⟩ 1 1 [.string x.name,.int .i64 x.cost,.slice i x.steps.length j] (by simp[Act.eval]) rfl (fun a1 u hu=>by rw[JL];exact X_ b #[.string x.name,.int .i64 x.cost,.slice i x.steps.length j] 79 a1 u (by simpa using hu)) (lJ x i j) (by omega) (by unfold maxLen;omega) (by omega) (by simp;omega) _ rfl ?_;intro i2 c6 w8 a7 N c7 i3;have O:=B.o.grown C N;have a8:au w8 (a.heap.size+1) 25 1:=B.o.row.block (O.block _ (by omega));obtain⟨⟨_,i4⟩,i5⟩:=a8.row.at (i:=0) (by omega);have⟨c8,c9⟩:=aD a7 N;clear a7 N c7 a8;refine f.out _ _ (fun _=>r.o _ O) ?_;clear f K;try simp only[Act.put,upA,upB,upC]
          have h:=r.o _ O;refine ae 9 h ?_;refine af 10 (fun K f=>?_);go_simp
          refine f.out _ _ (fun b3=>Ki rfl b3) ?_;clear f K;try simp only[Act.put,upA,upB,upC]
          refine ay ?_;go_wp2
          go_roundw
          case rel=>exact⟨k+1,k+1,_,c6,_,by omega,by go_num,.inr ⟨rfl,by omega,by omega⟩,il.next B.o (by omega) C c9.o c8.o (by have:=b2.o;omega) c5.o g8.o⟩
          case measure=>simp[intOf];omega
         ·obtain⟨l3,n5⟩:=(HG.o.2 (by omega)).1;have c5:=Kz (HG.o.2 (by omega)).2;go_wp2
          go_quiet (fail)
          obtain⟨Q,R,S,T,U⟩:=info_parts Tryz.lM;go_wp2_with (at_builtin;refine wpList_append_own _ rfl (.tmp 63) (.tmp 65) 23 rfl wc.heap.size 79 Q _ 3 48 underlying23 R S T U rfl (by decide) _ k P rfl (aj E.o.own (by repeat (first | (with_reducible exact K_.refl _) | apply K_.alloc | apply K_.drewN | apply K_.drew))) ⟨wr.heap.size,0,none⟩ 1 1 [.string d.name,.int .i64 d.cost,.slice s d.steps.length v] rfl rfl (fun a1 u hu=>(by rw[JL];exact X_ wr #[.string d.name,.int .i64 d.cost,.slice s d.steps.length v] 79 a1 u (by simpa using hu))) (lJ d s v) (by unfold maxLen;omega) (by omega) (by simp;omega) ?_;intro v6 w6 b4 b5 _;obtain⟨b6,b7,rfl⟩:=ax b4;have b9:K_ wr ((wr.drewN nq).alloc (.cells #[.string d.name,.int .i64 d.cost,.slice s d.steps.length v] 79)):=((K_.refl _).drewN nq).alloc _;have d0:=E.o.grown b9 b5;have d1:au w6 (a.heap.size+1) 25 1:=E.o.row.block (d0.block _ (by omega));obtain⟨⟨_,i7⟩,i8⟩:=d1.row.at (i:=0) (by omega);have e6:=Kz (il.next E.o (by omega) b9 b5 b4 (by have:=b2.o;omega) (by have:=h8.o;rw[show k=Y by omega];exact this) G.o.one);clear b4 b5 d1)
          obtain⟨b,M⟩:=ah (w6.setCell ⟨a.heap.size+1,0,none⟩ (.slice b6 (k+1) b7));rw[<-M];have m:il wc b (a.heap.size+1) a3 (k+1) b6 b7 (P++ [.string d.name,.int .i64 d.cost,.slice s d.steps.length v]):=by rw[M];exact e6.o
          clear M eo en g0 g1 e3 eu g2 g7 i8 i7 d0 b9 e6;clear Q R S T U;have a5:=ak.qi m.kb b1.o;have A:=a5 g e5 _ fr (by decide) n;have a6:=m.kb.same (l2:=0) (h2:=a.heap.size+1) (by omega);have V:=(a6.cell (o:=0) (Ja _) (by omega:a.heap.size<a.heap.size+1) (by omega)).trans co;have F:b.cell? ⟨g,k*3,none⟩=some (.string x.name):=by rw[Jl (A.trans n.symm)];exact Z.out.1
          have H:b.cell? ⟨g,k*3+1,none⟩=some (.int .i64 x.cost):=by rw[Jl (A.trans n.symm)];exact Z.out.2.1
          have I:b.cell? ⟨g,k*3+2,none⟩=some (.slice i x.steps.length j):=by rw[Jl (A.trans n.symm)];exact Z.out.2.2
          have W:=m.cell;have zq:=m.kb.size;have B:=Kz m;have gl:=aN n;have g3:a.heap.size+1<b.heap.size:=by omega
          have g4:a.heap.size<b.heap.size:=by omega
          have i1:g<b.heap.size:=by omega
          have r:Hid (∀w',Below wc.heap.size b w'->(fun w'=>w'.cell? ⟨a.heap.size+1,0,none⟩=some (.slice b6 (k+1) b7)/\w'.cell? ⟨a.heap.size,0,none⟩=some (.slice (some ⟨g,0,none⟩) old.length D)/\w'.cell? ⟨g,k*3,none⟩=some (.string x.name)/\w'.cell? ⟨g,k*3+1,none⟩=some (.int .i64 x.cost)/\w'.cell? ⟨g,k*3+2,none⟩=some (.slice i x.steps.length j)) w'):=fun w' q=>⟨(Below.cell q (p:=⟨a.heap.size+1,0,none⟩) (by simp <;> omega)).trans W,(Below.cell q (p:=⟨a.heap.size,0,none⟩) (by simp <;> omega)).trans V,(Below.cell q (p:=⟨g,k*3,none⟩) (by simp <;> omega)).trans F,(Below.cell q (p:=⟨g,k*3+1,none⟩) (by simp <;> omega)).trans H,(Below.cell q (p:=⟨g,k*3+2,none⟩) (by simp <;> omega)).trans I⟩
          clear m a5 A a6;obtain⟨Q,R,S,T,U⟩:=info_parts Tryz.lM;go_wp2
          refine Qk.region (by kernel_rfl) (fun w'=>w'.cell? ⟨a.heap.size+1,0,none⟩=some (.slice b6 (k+1) b7)/\w'.cell? ⟨a.heap.size,0,none⟩=some (.slice (some ⟨g,0,none⟩) old.length D)/\w'.cell? ⟨g,k*3,none⟩=some (.string x.name)/\w'.cell? ⟨g,k*3+1,none⟩=some (.int .i64 x.cost)/\w'.cell? ⟨g,k*3+2,none⟩=some (.slice i x.steps.length j)) 10 ⟨W,V,F,H,I⟩ (fun h=>?_);refine aB 0 h ?_;refine ae 4 h ?_;refine ae 5 h ?_;refine ae 6 h ?_;refine af 7 (fun K f=>?_);go_simp
          have C:K_ b (b.alloc (.cells #[.string x.name,.int .i64 x.cost,.slice i x.steps.length j] 79)).drew:=(ag _ _).drew;refine f.out _ _ (fun _=>r.o _ (Below.mono C (by omega))) ?_;clear f K h;try simp only[Act.put,upA,upB,upC]
          refine af 8 (fun K f=>?_);refine step_append_lies _ rfl (.tmp 69) (.tmp 75) 23 rfl wc.heap.size 79 Q _ 3 48 underlying23 R S T U rfl (by decide) (.slice b6 (k+1) b7) (k+1) (P++ [.string d.name,.int .i64 d.cost,.slice s d.steps.length v]) (by simp[Act.eval]) (aj B.o.own C) ⟨b.heap.size,0,none⟩ 1 1 [.string x.name,.int .i64 x.cost,.slice i x.steps.length j] (by simp[Act.eval]) rfl (fun a1 u hu=>by rw[JL];exact X_ b #[.string x.name,.int .i64 x.cost,.slice i x.steps.length j] 79 a1 u (by simpa using hu)) (lJ x i j) (by omega) (by unfold maxLen;omega) (by omega) (by simp;omega) _ rfl ?_;intro i2 c6 w8 a7 N c7 i3;have O:=B.o.grown C N;have a8:au w8 (a.heap.size+1) 25 1:=B.o.row.block (O.block _ (by omega));obtain⟨⟨_,i4⟩,i5⟩:=a8.row.at (i:=0) (by omega);have⟨c8,c9⟩:=aD a7 N;clear a7 N c7 a8;refine f.out _ _ (fun _=>r.o _ O) ?_;clear f K;try simp only[Act.put,upA,upB,upC]
          have h:=r.o _ O;refine ae 9 h ?_;refine af 10 (fun K f=>?_);go_simp
          refine f.out _ _ (fun b3=>Ki rfl b3) ?_;clear f K;try simp only[Act.put,upA,upB,upC]
          refine ay ?_;go_wp2
          go_roundw
          case rel=>exact⟨k+1,k+1+1,_,c6,_,by omega,by go_num,.inl ⟨rfl,by omega,by omega⟩,il.next B.o (by omega) C c9.o c8.o (by have:=b2.o;omega) c5.o g8.o⟩
          case measure=>simp[intOf];omega
       ·have l4:k=old.length:=by omega
        subst l4;rcases h9 with⟨rfl,g9,hm⟩|⟨rfl,g9,h0⟩
        ·subst hm;obtain⟨y,e7⟩:=E.o.fin b1.o d9.o (by omega) K5 (by omega) (by omega) b2.o HT.o HC.o HY.o HM.o (by omega);have i9:=d9.o.block (E.o.kb.block _ (by omega) (by omega));obtain⟨⟨_,t0⟩,t1⟩:=i9.row.at (i:=0) (by omega);have⟨l5,l6⟩:=aD y e7;clear i9 y e7;go_wp2
         exact bO [.slice J (old.length+1) L] _ (.int .i64 0) results92 rfl l5.o underlying25 rfl Tryz.kQ rfl rfl l6.o
        ·have hm:=h0.symm;subst hm;obtain⟨Q,R,S,T,U⟩:=info_parts Tryz.lM;have n6:w.heap.size+2<wr.heap.size:=by omega
         go_wp2_with (at_builtin;refine wpList_append_own _ rfl (.tmp 81) (.tmp 83) 23 rfl wc.heap.size 79 Q _ 3 48 underlying23 R S T U rfl (by decide) _ old.length P rfl (aj E.o.own (by repeat (first | (with_reducible exact K_.refl _) | apply K_.alloc | apply K_.drewN | apply K_.drew))) ⟨wr.heap.size,0,none⟩ 1 1 [.string d.name,.int .i64 d.cost,.slice s d.steps.length v] rfl rfl (fun a1 u hu=>(by rw[JL];exact X_ wr #[.string d.name,.int .i64 d.cost,.slice s d.steps.length v] 79 a1 u (by simpa using hu))) (lJ d s v) (by unfold maxLen;omega) (by omega) (by simp;omega) ?_;intro v6 w6 b4 b5 _;obtain⟨b6,b7,rfl⟩:=ax b4;have b9:K_ wr (wr.alloc (.cells #[.string d.name,.int .i64 d.cost,.slice s d.steps.length v] 79)):=ag _ _;have d0:=E.o.grown b9 b5;have d1:au w6 (a.heap.size+1) 25 1:=E.o.row.block (d0.block _ (by omega));obtain⟨⟨_,i7⟩,i8⟩:=d1.row.at (i:=0) (by omega);have j0:au w6 (w.heap.size+2) 25 1:=(d9.o.block (E.o.kb.block _ (by omega) (by omega))).block (d0.block _ (by omega));obtain⟨⟨_,n7⟩,n8⟩:=j0.row.at (i:=0) (by omega);have e6:=Kz (il.next E.o (by omega) b9 b5 b4 (by have:=b2.o;omega) (by have:=h8.o;rw[show old.length=Y by omega];exact this) G.o.one);clear b4 b5 d1 j0)
         obtain⟨y,e7⟩:=e6.o.fin b1.o d9.o (by omega) K5 (by omega) (by omega) b2.o HT.o HC.o HY.o HM.o (by omega);exact bO [.slice b6 (old.length+1) b7] _ (.int .i64 0) results92 rfl y underlying25 rfl Tryz.kQ rfl rfl e7
   ·have HM:=Kz c2;clear c2 a9;go_wp2
    have y:=Jc w3 (w.heap.size+2) 0 [.slice none 0 0] (d4.o.row.there (o:=0) (m:=1) (IZ _));refine bO [.slice none 0 0] _ (.int .i64 2) results92 rfl y underlying25 rfl Tryz.kQ rfl rfl (kH.none 2 rfl (.inr (.inl ⟨HC.o,.inr HM.o,rfl,rfl⟩)) ?_)
    repeat (first | (refine K_.setCell ?_ (by simp <;> omega) _) | exact K3)
  ·have HY:=Kz c2;clear c2 a9;go_wp2
   have y:=Jc w2 (w.heap.size+2) 0 [.slice none 0 0] (d3.o.row.there (o:=0) (m:=1) (IZ _));refine bO [.slice none 0 0] _ (.int .i64 2) results92 rfl y underlying25 rfl Tryz.kQ rfl rfl (kH.none 2 rfl (.inr (.inl ⟨HC.o,.inl HY.o,rfl,rfl⟩)) ?_)
   repeat (first | (refine K_.setCell ?_ (by simp <;> omega) _) | exact K1)
 ·have n9:(c == 0)=false:=by simpa using f2
  go_wp2
  have y:=Jc w1 (w.heap.size+2) 0 [.slice none 0 0] (d3.o.row.there (o:=0) (m:=1) (IZ _));refine bO [.slice none 0 0] _ (.int .i64 1) results92 rfl y underlying25 rfl Tryz.kQ rfl rfl (kH.none 1 rfl (.inl ⟨fun b3=>f2 (HC.o.unique b3),rfl,rfl⟩) ?_)
  repeat (first | (refine K_.setCell ?_ (by simp <;> omega) _) | exact K1)
variable {a : KG}
theorem aX.at(h:aX w (.slice a n cap) l){k:Nat}(f:k<l.length):
  ∃B oB b c,a=some ⟨B,oB,none⟩/\B<w.heap.size/\w.rangeAt B (oB+k*3) ((l.getD k Qz.zero).cells b c)/\jE w b (l.getD k Qz.zero).steps/\Steps w b (l.getD k Qz.zero).steps:=by
 obtain⟨r,s,e,t,v,g⟩:=h;simp only[JJ] at e;obtain⟨rfl,rfl,rfl⟩:=e;obtain⟨i,o,x,y,u,j,m,p,d⟩:=g k f;obtain⟨b,c,rfl,_,q⟩:=d.Ck;exact⟨i,o,b,c,j,aN m,p,q,d.steps⟩
def wC(mN:Nat)(w w':KH)(e:Ending):Prop:=
 ∃(v:KI) (r:List Qz),e= .returned (.agg #[v])/\r.length<=60/\(∀d∈r,d.TinyN mN)/\aX w' v r/\K_ w w'/\lC w.heap.size v r
def Gq(mN:Nat)(wr:KH)(s5 s6:KI)(wx:KH):Prop:=
 ∃(xb:Nat) (v:KI) (c:Int) (r:List Qz),s5= .pointer (some ⟨xb,0,none⟩)/\s6= .int .i64 c/\K_ wr wx/\xb<wx.heap.size/\wx.cell? ⟨xb,0,none⟩=some v/\aX wx v r/\r.length<=60/\(∀d∈r,d.TinyN mN)/\lC wr.heap.size v r
theorem yQ.tiny{r:List Qz}{c:Int}(h:yQ l d c r)(e:∀d∈l,d.TinyN mN)(f:d.TinyN mN):∀x∈r,x.TinyN mN:=fun x a=>by
 rcases h.mem a with rfl|a
 ·exact f
 ·exact e x a
theorem rT(w:KH)(c:KG)(b:Nat)(l:List Qz)(c3:mN<=1000)(hl:l.length<=1000)(hs:∀d∈l,d.TinyN mN)(hG:aX w (.slice c l.length b) l):
  Calls prog 52 #[.agg #[.slice c l.length b]] w fun e w'=>wC mN w w' e:=by
 go_enter func52,ntmps52
 go_wp2
 have Z:K_ w (((w.alloc (.cells #[.slice c l.length b] 25)).alloc (.cells #[.slice none 0 0] 25)).alloc (.cells #[.slice none 0 0] 25)):=((ag _ _).alloc _).alloc _;go_loopw [4] (fun I wr=>∃(k:Nat) (C:KI) (r:List Qz),k<=l.length/\I= .int .i64 k/\K_ w wr/\wr.cell? ⟨w.heap.size,0,none⟩=some (.slice c l.length b)/\au wr (w.heap.size+1) 25 1/\au wr (w.heap.size+2) 25 1/\
   wr.cell? ⟨w.heap.size+2,0,none⟩=some C/\aX wr C r/\r.length<=60/\(∀d∈r,d.TinyN mN)/\lC w.heap.size C r) (fun I _=>l.length-(intOf I).toNat)
 case atStart=>
  have hO:=X_ ((w.alloc (.cells #[.slice c l.length b] 25)).alloc (.cells #[.slice none 0 0] 25)) #[.slice none 0 0] 25;simp only[JG] at hO;refine⟨0,.slice none 0 0,[],Ja _,rfl,Z, ?_, ?_, ?_,hO 0 _ rfl,aX.nil _,by simp,(fun d hd=>by simp at hd),(fun h0=>by simp at h0)⟩
  ·rw[K_.cell (w:=w.alloc (.cells #[.slice c l.length b] 25)) ((ag _ _).alloc _) (by simp)];exact X_ w _ _ 0 _ rfl
  ·exact au.kept (by have:=au.made (w.alloc (.cells #[.slice c l.length b] 25)) #[.slice none 0 0] 25;simpa using this) (ag _ _)
  ·have:=au.made ((w.alloc (.cells #[.slice c l.length b] 25)).alloc (.cells #[.slice none 0 0] 25)) #[.slice none 0 0] 25;simpa using this
 case round=>
  clear Z;obtain⟨k,C,r,hk,rfl,f,J,a0,K,M,a1,a2,a3,a4⟩:=hrel;obtain⟨h,rfl⟩:=ah wr;have N:=K.lt;have⟨n,a5,j,v⟩:=jh a0 K a1 a3;clear a0 K a1 a3;by_cases a6:k<l.length
  ·have c4:(k:Int)<(l.length:Int):=by omega
   obtain⟨B,i,O,P,c5,a7,a8,Q,R⟩:=hG.at a6;subst c5;obtain⟨p,q,rfl,d8,d9⟩:=j.o.slice;have x:=f.range a7 a8;have S:B<h.heap.size:=I_ a7 f.size;have D:=hs (l.getD k Qz.zero) (by simp[List.getD,a6]);obtain⟨d,a9⟩:=ah (l.getD k Qz.zero);rw[<-a9] at x Q R D;have T:=x 0 _ rfl;have c1:=x 1 _ rfl;have c2:=x 2 _ rfl;rw[JM] at T;have c6:=Kz (Q.kept f);have c8:=Kz (R.kept f);clear x a9 a8 Q R;have b0:Hid (∀w',K_ h w'->(fun w'=>w'.cell? ⟨w.heap.size+2,0,none⟩=some (.slice p r.length q)/\w'.cell? ⟨w.heap.size,0,none⟩=some (.slice (some ⟨B,i,none⟩) l.length b)/\w'.cell? ⟨B,i+k*3,none⟩=some (.string d.name)/\w'.cell? ⟨B,i+k*3+1,none⟩=some (.int .i64 d.cost)/\w'.cell? ⟨B,i+k*3+2,none⟩=some (.slice O d.steps.length P)) w'):=fun w' y=>⟨(y.cell N).trans M,(y.cell (by omega)).trans J,(y.cell S).trans T,(y.cell S).trans c1,(y.cell S).trans c2⟩
   go_upto_region 5 with fail
   go_cut [5,6] from 15 to 24 (fun s5 s6 wx=>Gq mN h s5 s6 wx)
   case first=>
    go_region_held (fun w'=>w'.cell? ⟨w.heap.size+2,0,none⟩=some (.slice p r.length q)/\w'.cell? ⟨w.heap.size,0,none⟩=some (.slice (some ⟨B,i,none⟩) l.length b)/\w'.cell? ⟨B,i+k*3,none⟩=some (.string d.name)/\w'.cell? ⟨B,i+k*3+1,none⟩=some (.int .i64 d.cost)/\w'.cell? ⟨B,i+k*3+2,none⟩=some (.slice O d.steps.length P)) (exact aW b0 _ (by repeat (first | (refine K_.setCell ?_ (by simp <;> omega) _) | (with_reducible exact K_.refl _) | (with_reducible assumption) | apply K_.drew | apply K_.alloc))) ((go_at_call 92;refine (Fs _ p q r d O P c3 (by omega) v.o D (j.o.FQ.kept (by repeat (first | (with_reducible exact K_.refl _) | (with_reducible assumption) | apply K_.drew | apply K_.alloc))) (j.o.nodes.kept (by repeat (first | (with_reducible exact K_.refl _) | (with_reducible assumption) | apply K_.drew | apply K_.alloc))) (c6.o.kept (by repeat (first | (with_reducible exact K_.refl _) | (with_reducible assumption) | apply K_.drew | apply K_.alloc))) (c8.o.kept (by repeat (first | (with_reducible exact K_.refl _) | (with_reducible assumption) | apply K_.drew | apply K_.alloc)))).mono ?_;rintro e U ⟨c9,d0,s,E,e1,d1,rfl,b1,b2,V,b3,b4⟩;have a:K_ h U:=K_.trans (by repeat (first | (with_reducible exact K_.refl _) | (with_reducible assumption) | apply K_.drew | apply K_.alloc)) b4;have b5:=Kz (aX.fQ V b3);have b6:h.heap.size<=d1:=Jb (K_.size (by repeat (first | (with_reducible exact K_.refl _) | (with_reducible assumption) | apply K_.drew | apply K_.alloc))) b2;have b7:=Kz ((lC.fQ (L:=E) V).mono b6);have F:=Kz b1;clear b1 V b3 b2 b6;(first | (have G:=yU (t:=25) (c:= #[.slice none 0 0]) b4;(try simp only[JG] at G);have W:=Kz G;obtain⟨⟨_,t0⟩,f0⟩:=G.row.at (i:=0) (by decide);clear G) | skip)))
    ·go_wp2
     go_meet
     exact⟨_,_,s,E,rfl,rfl,a.alloc _,by simp,by simp,b5.o.kept (ag _ _),F.o.len,F.o.tiny v.o D,b7.o⟩
    ·go_wp2
     go_meet
     have X:=Jc U h.heap.size 0 [.slice c9 E.length d0] (W.o.row.there (o:=0) (m:=1) (IZ _));exact⟨_,_,s,E,rfl,rfl,a.setCell (by simp) _,by rw[size_setCell];exact W.o.lt,X 0 _ rfl,b5.o.same (W.o.same (o:=0) _) (by decide) (by decide) (by decide) (by decide),F.o.len,F.o.tiny v.o D,b7.o⟩
   case rest=>
    obtain⟨xb,v7,s,r7,rfl,rfl,a,zx,x0,Y,d2,b8,d3⟩:=hcut;obtain⟨U,rfl⟩:=ah wc;have z7:=I_ N a.size;have o7:=(a.cell (o:=0) N).trans M;have p7:=(a.cell (o:=0) (by omega:w.heap.size<h.heap.size)).trans J;obtain⟨e2,c7,rfl,_,_⟩:=Y.slice;have⟨d4,d5⟩:=aD Y b8;have b9:=Kz (n.o.kept a);have A:=Kz (a5.o.kept a);have d6:=Kz (j.o.kept a);have c0:=f.trans a;have d7:=f.size;obtain⟨⟨_,u0⟩,g0⟩:=A.o.row.at (i:=0) (by omega);clear Y b8 b0 T c1 c2 M J n a5 j a f;by_cases H:s=0
    ·have e0:(s == 0)=true:=by simp[H]
     clear H;go_wp2
     go_roundw
     case rel=>
      refine⟨k+1,_,r7,by omega,by go_num,c0.setCell (by simp <;> omega) _, ?_,b9.o.block (Below.heap_setCell _ _ _ _ (by simp)),A.o.set _,aS A.o.row (by omega) _,d4.o.same (A.o.same (o:=0) _) (by decide) (by decide) (by decide) (by decide),d2,d5.o,d3.mono d7⟩;rw[Jr _ _ _ _ (by simp)];exact p7
     case measure=>simp[intOf];omega
    ·have e0:(s == 0)=false:=by simpa using H
     clear H;go_wp2
     go_roundw
     case rel=>exact⟨k+1,_,r,by omega,by go_num,c0,p7,b9.o,A.o,o7,d6.o,a2,v.o,a4⟩
     case measure=>simp[intOf];omega
  ·have c4:¬(k:Int)<(l.length:Int):=by omega
   obtain⟨⟨_,x0⟩,g0⟩:=n.o.row.at (i:=0) (by omega);have z1:=n.o.lt;obtain⟨p,q,rfl,_,_⟩:=j.o.slice;go_wp2
   have X:=Jc h (w.heap.size+1) 0 [.slice p r.length q] (n.o.row.there (o:=0) (m:=1) (IZ _));exact Zx [.slice p r.length q] _ results52 rfl X underlying25 rfl Tryz.kQ rfl ⟨_,r,rfl,a2,v.o,j.o.same (n.o.same (o:=0) _) (by decide) (by decide) (by decide) (by decide),f.setCell (by simp) _,a4⟩
variable {bs : List UInt8} {rb : Nat}
theorem fD.sorted{M:Nat}{l j:KH}{B:Nat}{i t:Nat}{v:KI}{L:List Qz}{e:Ending}(h:fD M l j rb B a cap bs i v L xs)(C:wC M j w6 e){c:Nat}(D:au j c 25 1)(E:w.heap.size<=c)(b:K_ w l){F:Nat}(G:Rd w rb a cap bs F)
 (H:p<=i) (h2:i<=p+t):∃d vn f,e= .returned (.agg #[.slice d vn f])/\au w6 c 25 1/\kM M 60 w (w6.setCell ⟨c,0,none⟩ (.slice d vn f)) rb a cap bs p t e:=by
 obtain⟨P,r,m,I,J,n,k,K⟩:=C;obtain⟨d,f,rfl,_,_⟩:=n.slice;have q:=D.kept k;have N:=q.same (o:=0) (.slice d r.length f);have s:Below w.heap.size w6 (w6.setCell ⟨c,0,none⟩ (.slice d r.length f)):=(Below.refl _ _).setCell (p:=⟨c,0,none⟩) E _;have x:Xj rb (rb+1) w w6:=Xj.eX ⟨h.kb.os.trans b.os,h.kb.tape.trans b.tape,h.kb.output.trans b.output,Jb b.size h.kb.size,fun y A O=>(h.kb.block y (I_ A b.size) O).trans (b.block y A)⟩ k;exact⟨d,r.length,f,m,q,_,r,i,m,H,h2,I,J,n.same N (by decide) (by decide) (by decide) (by decide),(h.rd.kept k).below G s x.size,x.below s,K.mono (Jb b.size h.kb.size)⟩
def bL(g:KC):Xq:=⟨[],0,[],0,0,true,false,g⟩
theorem iq{g:KC}(a:g.size<=300):(bL g).TinyN m:=⟨Ja _,(fun x b=>by simp[bL] at b),by show (-1000:Int)<=0/\(0:Int)<=1000;decide,Ja _,(fun e c=>by simp[bL] at c),by show (-9223372036854775808:Int)<=0/\(0:Int)<=9223372036854775807;decide,by show (-1000:Int)<=0/\(0:Int)<=1000;decide,a⟩
theorem qG(w:KH)(g:KC):ky w 9 177 ((bL g).cells none 0 none 0) (bL g):=⟨none,0,none,0,rfl,.inl rfl,.inl rfl,IZ _⟩
theorem nA(g:KC):jK ((bL g).cells none 0 none 0):=jv (fun _=>⟨rfl,rfl⟩) (fun _=>⟨rfl,rfl⟩)
theorem Cx(w:KH)(c:Array KI):∀j u,c.toList[j]? =some u->(w.alloc (.cells c 83)).cell? ((⟨w.heap.size,0,none⟩:Addr).add j)=some u:=fun j u b=>by
 rw[JL];exact X_ w c 83 j u b
theorem jc.g{c:Nat}{cost:Int}{v:KI}{L:List Xq}(h:jc mN w wr rb c a cap bs p cost v L xs):cB wr v L:=(StW.fQ h.own h.pack h.mU).g
structure ja (wO wr:KH) (rb sb:Nat) (a:KG) (cap:Nat) (bs:List UInt8) (p:Nat) (aa:KG) (ca:Nat) (s:Xq):Prop where
 rd:Rd wr rb a cap bs p
 kb:Xj rb (rb+1) wO wr
 sbl:wO.heap.size<=sb
 box:df wr sb (.slice aa s.asks.length ca) (.slice none 0 0) s
 asks:mK wr aa s.asks
 room:s.asks.length<=ca
 nil:aa=none->s.asks.length=0/\ca=0
 cases:s.cases=[]
 tiny:s.TinyN 20
variable {sb : Nat} {aa : KG} {s : Xq} {wO : KH}
theorem ja.kept(h:ja wO wr rb sb a cap bs p aa ca s)(k:K_ wr w'):ja wO w' rb sb a cap bs p aa ca s:=
 ⟨h.rd.kept k,h.kb.eX k,h.sbl,h.box.kept k,h.asks.same (u:=25) (.aC k) (by decide),h.room,h.nil,h.cases,h.tiny⟩
theorem ja.drawn{c:Nat}(h:ja wO wr rb sb a cap bs p aa ca s)(e:rb<wO.heap.size)(d:Rd w' rb a cap bs c)(k:Xj rb (rb+1) wr w'):ja wO w' rb sb a cap bs c aa ca s:=by
 have f:=h.sbl;exact⟨d,h.kb.trans k,h.sbl,h.box.block (k.block sb h.box.row.lt (by omega)),h.asks.same (k.sameKind h.rd) (by decide),h.room,h.nil,h.cases,h.tiny⟩
theorem ja.steps(h:ja wO wr rb sb a cap bs p aa ca s):
  cB (wr.alloc (.cells #[.slice aa s.asks.length ca,.int .i64 s.on,.slice none 0 0,.int .i64 s.els,.int .i64 s.fall,.bool s.fin,.bool s.bad,.string s.give,.slice none 0 0,.int .i64 0,.slice none 0 0,.int .i64 0,.int .i64 0,.bool true,.bool false,.string ⟨#[114]⟩] 83)) (.slice (some ⟨wr.heap.size,0,none⟩) 2 2) [s,bL ⟨#[114]⟩]:=by
 have k:K_ wr (wr.alloc (.cells #[.slice aa s.asks.length ca,.int .i64 s.on,.slice none 0 0,.int .i64 s.els,.int .i64 s.fall,.bool s.fin,.bool s.bad,.string s.give,.slice none 0 0,.int .i64 0,.slice none 0 0,.int .i64 0,.int .i64 0,.bool true,.bool false,.string ⟨#[114]⟩] 83)):=ag _ _;have d:=X_ wr #[.slice aa s.asks.length ca,.int .i64 s.on,.slice none 0 0,.int .i64 s.els,.int .i64 s.fall,.bool s.fin,.bool s.bad,.string s.give,.slice none 0 0,.int .i64 0,.slice none 0 0,.int .i64 0,.int .i64 0,.bool true,.bool false,.string ⟨#[114]⟩] 83;have e:s.cases.length=0:=by rw[h.cases];rfl
 refine⟨_,2,rfl,IZ _,fun i f=>?_⟩
 match i,f with
 | 0,_=>
  refine⟨wr.heap.size,0,_,_,s.cells aa ca none 0,rfl,heap_alloc_new wr _,fun j u b=>?_,⟨aa,ca,none,0,rfl,h.asks.same (u:=25) (.aC k) (by decide),.inl h.cases,h.room⟩,jv h.nil (fun _=>⟨e,rfl⟩)⟩;have c:j<8:=by have:=(Je.1 b).1;simpa[Xq.cells] using this
  refine d j u ?_;rw[<-b];unfold Xq.cells;rw[e]
  match j,c with
  | 0,_ | 1,_ | 2,_ | 3,_ | 4,_ | 5,_ | 6,_ | 7,_=>rfl
 | 1,_=>
  refine⟨wr.heap.size,0,_,_,(bL ⟨#[114]⟩).cells none 0 none 0,rfl,heap_alloc_new wr _,fun j u b=>?_,(qG _ _).g,nA _⟩;have c:j<8:=by have:=(Je.1 b).1;simpa[Xq.cells] using this
  have:=d (8+j) u;rw[<-Nat.add_assoc] at this;refine this ?_;rw[<-b]
  match j,c with
  | 0,_ | 1,_ | 2,_ | 3,_ | 4,_ | 5,_ | 6,_ | 7,_=>rfl
theorem xD{α:Type}{p:α->Prop}{x y z:α}(h:x∈[y,z])(c:p y)(d:p z):p x:=by
 simp only[JN,JO,or_false] at h;rcases h with rfl|rfl
 ·exact c
 ·exact d
theorem df.ring(w:KH)(b:KI)(l:List KC):df (w.alloc (.cells #[b,.int .i64 0,.slice none 0 0,.int .i64 1,.int .i64 (-1),.bool false,.bool false,.string ⟨#[]⟩] 83)) w.heap.size b (.slice none 0 0) ⟨l,0,[],1, -1,false,false,⟨#[]⟩⟩:=by
 have e:=X_ w #[b,.int .i64 0,.slice none 0 0,.int .i64 1,.int .i64 (-1),.bool false,.bool false,.string ⟨#[]⟩] 83;have a:∀j v,(#[b,.int .i64 0,.slice none 0 0,.int .i64 1,.int .i64 (-1),.bool false,.bool false,.string ⟨#[]⟩]:Array KI).toList[j]? =some v->(w.alloc (.cells #[b,.int .i64 0,.slice none 0 0,.int .i64 1,.int .i64 (-1),.bool false,.bool false,.string ⟨#[]⟩] 83)).cell? ⟨w.heap.size,j,none⟩=some v:=fun j v f=>by
  have:=e j v f;rw[JA] at this;exact this
 exact⟨au.made w _ _,a 0 _ rfl,a 1 _ rfl,a 2 _ rfl,a 3 _ rfl,a 4 _ rfl,a 5 _ rfl,a 6 _ rfl,a 7 _ rfl⟩
theorem DR{w2:KH}(b:Rd wO rb a cap bs p)(k:K_ wO w2){x:KC}(h:x.size<=300):
  SSt wO ((w2.alloc (.cells #[.string x] 9)).alloc (.cells #[.slice (some ⟨w2.heap.size,0,none⟩) 1 1,.int .i64 0,.slice none 0 0,.int .i64 1,.int .i64 (-1),.bool false,.bool false,.string ⟨#[]⟩] 83)) rb (w2.heap.size+1) a cap bs p (.slice (some ⟨w2.heap.size,0,none⟩) 1 1) (.slice none 0 0) ⟨[x],0,[],1, -1,false,false,⟨#[]⟩⟩:=by
 have i:K_ w2 (w2.alloc (.cells #[.string x] 9)):=ag _ _;have c:K_ (w2.alloc (.cells #[.string x] 9)) ((w2.alloc (.cells #[.string x] 9)).alloc (.cells #[.slice (some ⟨w2.heap.size,0,none⟩) 1 1,.int .i64 0,.slice none 0 0,.int .i64 1,.int .i64 (-1),.bool false,.bool false,.string ⟨#[]⟩] 83)):=ag _ _;have K:=(k.trans i).trans c;have m:=k.size;have e:=df.ring (w2.alloc (.cells #[.string x] 9)) (.slice (some ⟨w2.heap.size,0,none⟩) 1 1) [x];rw[JG] at e;have j:(w2.alloc (.cells #[.string x] 9)).ownsRow wO.heap.size 9 1 (.slice (some ⟨w2.heap.size,0,none⟩) 1 1) 1 [.string x]:=⟨rfl,.inr ⟨w2.heap.size,1,_,rfl,k.size,heap_alloc_new w2 _,IZ _,by unfold maxLen;omega,rfl,rfl⟩⟩;exact⟨b.kept K,⟨p,b⟩,by omega,.aC K,e,aj j c,JP _ _ _ _,⟨by show 1<=20;omega,(fun y f=>by simp at f;subst f;exact h),by show (-1000:Int)<=0/\(0:Int)<=1000;decide,Ja _,(fun q l=>by simp at l),by show (-9223372036854775808:Int)<=1/\(1:Int)<=9223372036854775807;decide,by show (-1000:Int)<= -1/\(-1:Int)<=1000;decide,by show (0:Nat)<=300;omega⟩⟩
theorem fK.ring(h:SSt wO wr rb sb a cap bs p (.slice aa n ca) (.slice none 0 0) s)(c:s.cases=[]):n=s.asks.length/\ja wO wr rb sb a cap bs p aa ca s:=by
 obtain⟨i,j,b,d,e⟩:=bf h.asks;simp only[JJ] at b;obtain⟨rfl,rfl,rfl⟩:=b;exact⟨rfl,h.rd,h.kb,h.sbl,h.box,e.g,d,fun f=>by subst f;exact ik h.asks,c,h.tiny⟩
theorem fK.tail{g c:Nat}(h:SSt wO wr rb sb a cap bs p (.slice (some ⟨g,0,none⟩) s.asks.length c) (.slice none 0 0) s)(r:s.cases=[])(f:1<=s.asks.length)(i:aa=some ⟨g,0,none⟩/\c=1\/aa=some ⟨g,1,none⟩)(F:m+1=s.asks.length):
  ja wO (wr.setCell ⟨sb,0,none⟩ (.slice aa m (c-1))) rb sb a cap bs p aa (c-1) {s with asks:=s.asks.drop 1}:=by
 obtain⟨G,H,j,I,d⟩:=bf h.asks;simp only[JJ,true_and] at j;obtain⟨rfl,rfl⟩:=j;have k:Below wO.heap.size wr (wr.setCell ⟨sb,0,none⟩ (.slice aa m (c-1))):=(Below.refl _ _).setCell h.sbl _;obtain⟨J,t⟩:=h.rd0;have l:(s.asks.drop 1).length=m:=by rw[List.length_drop];omega
 have v:=h.box.asks (.slice aa m (c-1)) (s.asks.drop 1);rcases d with d|⟨b,K,L,n,w,x⟩
 ·rw[d] at f;simp at f
 simp only[JI,Kv,and_true] at n;subst n;have y:mK wr aa (s.asks.drop 1):=mK.tail (b:=g) (o:=0) w (fun A B=>by rw[JA];exact x A B) (fun C=>by
  rcases i with⟨_,e⟩|e
  ·exact Ki (Kn (by rw[l];omega)) C
  ·rw[JA];exact e)
 refine⟨h.rd.below t k h.kb.size,h.kb.below k,h.sbl,by show df _ sb (.slice aa (s.asks.drop 1).length (c-1)) _ _;rw[l];exact v,y.same (h.box.row.same _) (by decide),by show (s.asks.drop 1).length<=c-1;omega,fun e=>?_,r,⟨by show (s.asks.drop 1).length<=20;have:=h.tiny.asks;omega,fun D E=>h.tiny.dF D (List.mem_of_mem_drop E),h.tiny.on,h.tiny.cases,h.tiny.di,h.tiny.els,h.tiny.fall,h.tiny.give⟩⟩;rcases i with⟨q,_⟩ | q <;> (rw[q] at e;cases e)
theorem EN :p_ 22 400 20 60 700000:=by
 intro w p a r x b1 hR hp b0;have k0:K_ w (w.alloc (.cells #[.slice none 0 0] 25)):=ag _ _;have f9:Hid (Rd (w.alloc (.cells #[.slice none 0 0] 25)) p a r x b1):=hR.kept k0;have l7:=hR.row.lt;have b2:Hid (au ((w.alloc (.cells #[.slice none 0 0] 25)).alloc (.cells #[.slice none 0 0] 25)) w.heap.size 25 1):=(au.made w _ _).kept (ag _ _);have e2:=fD.made (mN:=20) f9.o f9.o (Xj.refl _ _ _);rw[JG] at e2;have⟨e4,i6⟩:=aD e2 hR;clear hR e2;go_enter func22,ntmps22
 go_wp2_with fail
 refine (aI _ p a r x b1 _ 9 rfl e4.o.rd (by omega) (by omega) b0).mono ?_;rintro L w1 ⟨v1,rfl,l8,g0,e5⟩;have g3:=Kz (e4.o.drawn g0 e5);have g4:=Kz (b2.o.but e5 (by omega));obtain⟨n1,i7⟩:∃n1:Nat,n1=3+v1:=⟨_,rfl⟩;clear g0 e5 e4 b2;go_wp2
 go_loopg [5] n1 (fun g I wr=>∃(k:Nat) (p':Nat) (v:KI) (a1:List Qz) (xs:List KI),I= .int .i64 (k:Int)/\k+g=n1/\a1.length=k/\b1<=p'/\p'<=b1+1+12*k/\au wr w.heap.size 25 1/\fD 20 (w.alloc (.cells #[.slice none 0 0] 25)) wr p (w.heap.size+1) a r x p' v a1 xs)
 case atStart=>exact⟨0,b1+1,_,[],[],rfl,by omega,rfl,by omega,by omega,g4.o,g3.o⟩
 case round=>
  clear g3 g4;obtain⟨k,p7,v,a1,xs,rfl,hk,hL,l9,m0,g5,G⟩:=hrel;obtain⟨wO,rfl⟩:=ah wr;have⟨HO,j,b2⟩:=eB G hL g5;obtain⟨av,cv,rfl⟩:=ax G.own;clear G hL g5;by_cases m1:(k:Int)<3+ (v1:Int)
  ·obtain⟨qm,e6⟩:∃qm:Nat,qm= (k+1) % n1:=⟨_,rfl⟩;have i8:((k:Int)+1).tmod (3+ (v1:Int))= (qm:Int):=by rw[Int.tmod_eq_emod_of_nonneg (by omega),e6,i7];push_cast;rfl
   have m2:qm<n1:=by rw[e6];exact Nat.mod_lt _ (by omega)
   have i9:((3+ (v1:Int)) == 0)=false:=by rw[beq_eq_false_iff_ne];omega
   clear e6;go_wp2_with fail
   refine (iW _ qm _ (by go_num) (by omega)).mono ?_;rintro L w2 ⟨H,rfl,m3,k2⟩;have d3:=Kz (DR HO.o.rd k2 (x:=H) (by omega));have m4:=k2.size;clear k2 i8 i9;obtain⟨wS,e7⟩:=ah ((w2.alloc (.cells #[.string H] 9)).alloc (.cells #[.slice (some ⟨w2.heap.size,0,none⟩) 1 1,.int .i64 0,.slice none 0 0,.int .i64 1,.int .i64 (-1),.bool false,.bool false,.string ⟨#[]⟩] 83));rw[<-e7] at d3;go_upto_region 7 with fail
   rw[<-e7];clear e7;go_wp2_with fail
   refine (aI _ p a r x p7 _ 3 rfl d3.o.rd (by omega) (by omega) b0).mono ?_;rintro L w3 ⟨v3,rfl,j0,g6,g7⟩;have d4:=Kz (d3.o.drawn g6 g7);clear g6 g7 d3;go_upto_if 26 with fail
   go_cut [6,7] from 26 to 42 (fun s6 _ wx=>∃(g b4:Nat) (s:Xq) (p':Nat),s6= .pointer (some ⟨w2.heap.size+1,0,none⟩)/\p7<=p'/\p'<=p7+2/\1<=s.asks.length/\s.asks.length<=2/\s.cases=[]/\SSt wO wx p (w2.heap.size+1) a r x p' (.slice (some ⟨g,0,none⟩) s.asks.length b4) (.slice none 0 0) s)
   case first=>
    by_cases h3:v3=0
    ·have e3:((v3:Int) == 0)=true:=by simp[h3]
     clear h3;go_wp2_with fail
     refine (aI _ p a r x (p7+1) _ n1 (by omega) d4.o.rd (by omega) (by omega) b0).mono ?_;rintro L w4 ⟨v4,rfl,m5,g8,g9⟩;have M:=Kz (d4.o.drawn g8 g9);clear g8 g9;go_wp2_with fail
     refine (iW _ v4 _ rfl (by omega)).mono ?_;rintro L w5 ⟨I,rfl,hx,h0⟩;have a2:=Kz (M.o.kept h0);clear h0 M;have y0:=a2.o.box.c0;have yz:=a2.o.box.row.lt;obtain⟨_,e8⟩:=a2.o.box.cell (o:=0) (by omega);have j1:=a2.o.asks.cells (g:=w2.heap.size) rfl 0 _ rfl;have m6:w2.heap.size<w5.heap.size:=by omega
     rw[JL,JM] at j1;cases j2:(I.toList == H.toList)
     ·have m7:=j2;obtain⟨ia,j3,j4,j5,j6⟩:=aM Tryz.d_;have d5:Hid (K_ w5 (w5.alloc (.cells #[.string I] 9))):=ag _ _;have j7:=Kz (a2.o.kept d5.o).asks;have j8:wO.heap.size<=(w5.alloc (.cells #[.string I] 9)).heap.size:=(a2.o.kept d5.o).kb.size;go_wp2_with (at_builtin;refine wpList_append_lies _ rfl (.tmp 38) (.tmp 40) 26 rfl wO.heap.size 9 ia _ 1 16 underlying26 j3 j4 j5 j6 rfl (by decide) (.slice (some ⟨w2.heap.size,0,none⟩) 1 1) 1 [.string H] rfl j7.o ⟨w5.heap.size,0,none⟩ 1 1 [.string I] rfl rfl (iB w5 I) (ib I) (by omega) (by unfold maxLen;omega) (by omega) j8 _ rfl ?_;intro g c6 w6 h1 e9 _ _;have d6:=a2.o.ry d5.o e9;have y2:=d6.c0;have z2:=d6.row.lt;obtain⟨_,m8⟩:=d6.cell (o:=0) (by omega);have j9:=Kz h1;have k1:=Kz e9;clear h1 e9 d6)
      go_meet
      exact⟨g,c6,⟨[H,I],0,[],1, -1,false,false,⟨#[]⟩⟩,p7+2,rfl,by omega,by omega,by show 1<= [H,I].length;simp,by show [H,I].length<=2;simp,rfl,a2.o.nT (x:=I) d5.o j9.o k1.o (by show 1+1<=20;omega) (by omega)⟩
     ·go_wp2
      go_meet
      exact⟨w2.heap.size,1,⟨[H],0,[],1, -1,false,false,⟨#[]⟩⟩,p7+2,rfl,by omega,by omega,by show 1<= [H].length;simp,by show [H].length<=2;simp,rfl,a2.o⟩
    ·have e3:((v3:Int) == 0)=false:=by simpa using h3
     clear h3;go_wp2
     go_meet
     exact⟨w2.heap.size,1,⟨[H],0,[],1, -1,false,false,⟨#[]⟩⟩,p7+1,rfl,by omega,by omega,by show 1<= [H].length;simp,by show [H].length<=2;simp,rfl,d4.o⟩
   case rest=>
    obtain⟨g,b4,s0,N,rfl,m9,n0,k3,k4,h4,G⟩:=hcut;have⟨HT,b5⟩:=aD G h4;clear G h4 d4 j0;go_wp2_with fail
    refine (aI _ p a r x N _ 6 rfl HT.o.rd (by omega) (by omega) b0).mono ?_;rintro L w5 ⟨v5,rfl,k5,h6,h7⟩;have M:=Kz (HT.o.drawn h6 h7);clear h6 h7 HT;obtain⟨b3,hm⟩:∃b3,b3+1=s0.asks.length:=⟨s0.asks.length-1,by omega⟩;have y0:=M.o.box.c0;have yz:=M.o.box.row.lt;obtain⟨_,e8⟩:=M.o.box.cell (o:=0) (by omega);rw[<-hm] at y0;have HM:=Kz hm;have k6:b3<=1:=by omega
    have k7:b3+1<=b4:=by have:=(M.o.ring b5.o).2.room;omega
    clear hm k3 k4;go_upto_if 45 with fail
    go_cut [6] from 43 to 49 (fun s6 wx=>∃(O:KG) (P:Nat) (s:Xq),s6= .pointer (some ⟨w2.heap.size+1,0,none⟩)/\ja wO wx p (w2.heap.size+1) a r x (N+1) O P s)
    case first=>
     by_cases h5:v5=0
     ·have k8:((v5:Int) == 0)=true:=by simp[h5]
      clear h5;have i1:(1:Int)<=(b3:Int)+1:=by omega
      have i2:(1:Int)<=(b4:Int):=by omega
      by_cases k9:b4=1
      ·subst k9;obtain rfl:b3=0:=by omega
       go_wp2
       go_meet
       exact⟨_,_,_,rfl,M.o.tail b5.o (by have:=HM.o;omega) (.inl ⟨rfl,rfl⟩) HM.o⟩
      ·go_wp2
       go_meet
       exact⟨_,_,_,rfl,M.o.tail b5.o (by have:=HM.o;omega) (.inr rfl) HM.o⟩
     ·have k8:((v5:Int) == 0)=false:=by simpa using h5
      clear h5;go_wp2
      go_meet
      exact⟨_,_,s0,rfl,(M.o.ring b5.o).2⟩
    case rest=>
     clear M b5 y0 yz e8 HM k6 k7 k5;obtain⟨O,P,s,rfl,G⟩:=hcut;obtain⟨wA,rfl⟩:=ah wc;have HT:=Kz G;have d7:=Kz (HO.o.drawn G.rd G.kb);have d8:w.heap.size<p\/p+1<=w.heap.size:=by omega
     have f0:p<wO.heap.size:=HO.o.rd.row.lt;have h8:=Kz (b2.o.but G.kb d8);have y5:=d7.o.c0;rw[j.o] at y5;have l0:=d7.o.row.lt;have n2:=G.sbl;clear G HO b2;obtain⟨f1,f2,f3,f4,f5⟩:=aM Tryz.lL;have n:Hid (∀(v:KH) (p' q':Nat),fD 20 (w.alloc (.cells #[.slice none 0 0] 25)) v p (w.heap.size+1) a r x p' (.slice av a1.length cv) a1 xs->ja wO v p (w2.heap.size+1) a r x q' O P s->(fun (v:KH)=>v.cell? ⟨w.heap.size+1,0,none⟩=some (.slice av k cv)/\v.cell? ⟨w2.heap.size+1,0,none⟩=some (.slice O s.asks.length P)/\v.cell? ⟨w2.heap.size+1,1,none⟩=some (.int .i64 s.on)/\v.cell? ⟨w2.heap.size+1,2,none⟩=some (.slice none 0 0)/\v.cell? ⟨w2.heap.size+1,3,none⟩=some (.int .i64 s.els)/\v.cell? ⟨w2.heap.size+1,4,none⟩=some (.int .i64 s.fall)/\v.cell? ⟨w2.heap.size+1,5,none⟩=some (.bool s.fin)/\v.cell? ⟨w2.heap.size+1,6,none⟩=some (.bool s.bad)/\v.cell? ⟨w2.heap.size+1,7,none⟩=some (.string s.give)) v):=fun v p' q' l1 h2=>⟨by rw[<-j.o];exact l1.c0,h2.box.c0,h2.box.c1,h2.box.c2,h2.box.c3,h2.box.c4,h2.box.c5,h2.box.c6,h2.box.c7⟩
     have KD:K_ wA wA.drew:=aG wA;have d9:=Kz (d7.o.kept KD);have b6:=Kz (HT.o.kept KD);have f6:=Kz (h8.o.kept KD);go_upto_region 13 with fail
     refine Qk.region (by kernel_rfl) (fun (v:KH)=>v.cell? ⟨w.heap.size+1,0,none⟩=some (.slice av k cv)/\v.cell? ⟨w2.heap.size+1,0,none⟩=some (.slice O s.asks.length P)/\v.cell? ⟨w2.heap.size+1,1,none⟩=some (.int .i64 s.on)/\v.cell? ⟨w2.heap.size+1,2,none⟩=some (.slice none 0 0)/\v.cell? ⟨w2.heap.size+1,3,none⟩=some (.int .i64 s.els)/\v.cell? ⟨w2.heap.size+1,4,none⟩=some (.int .i64 s.fall)/\v.cell? ⟨w2.heap.size+1,5,none⟩=some (.bool s.fin)/\v.cell? ⟨w2.heap.size+1,6,none⟩=some (.bool s.bad)/\v.cell? ⟨w2.heap.size+1,7,none⟩=some (.string s.give)) 15 (n.o _ _ _ d9.o b6.o) (fun c=>?_);generalize l2:wA.drew=wd at c d9 b6 f6⊢;clear l2 KD d7 HT h8 y5 l0;refine ae 0 c ?_;refine ae 1 c ?_;refine ae 2 c ?_;refine ae 4 c ?_;refine ae 7 c ?_;refine ae 8 c ?_;refine bG 3 9 (fun K b=>?_) (fun K b=>?_)
     ·rw[Kg (by rfl)];go_simp
      go_at_call 24
      refine (iW _ k _ rfl (by omega)).mono ?_;rintro L wl ⟨m,rfl,l3,kl⟩;have Q:=Kz (d9.o.kept kl);have a3:=Kz (b6.o.kept kl);have e0:=Kz (f6.o.kept kl)
      skip
      dsimp only;refine b.out _ _ (fun _=>n.o _ _ _ Q.o a3.o) ?_;clear b K c;have c:=n.o _ _ _ Q.o a3.o;try simp only[Act.put,upA,upB,upC]
      refine bG 5 9 (fun K b=>?_) (fun K b=>?_)
      ·rw[Kg (by rfl)];go_simp
       go_at_call 21
       refine (aI _ p a r x (N+1) _ 4 rfl Q.o.rd (by omega) (by omega) b0).mono ?_;rintro L R ⟨e,rfl,h9,S,y⟩;have A:=Kz (Q.o.drawn S y);have J:=Kz (a3.o.drawn f0 S y);have b7:=Kz (e0.o.but y d8)
       skip
       dsimp only;refine b.out _ _ (fun _=>n.o _ _ _ A.o J.o) ?_;clear b K c S y;have c:=n.o _ _ _ A.o J.o;try simp only[Act.put,upA,upB,upC]
       have ew:IntKind.i64.wrap (1+ (e:Int))=1+ (e:Int):=by simp[IntKind.wrap,IntKind.bits,IntKind.signed];omega
       refine Qk.take 6 [10,11,12,13,14,15] (v:= .int .i64 (1+ (e:Int))) (by (simp only[Kw,JW,JX];rfl)) (by kernel_rfl) (by kernel_rfl) (by kernel_rfl) (by kernel_rfl) (by exact fun _ _ _ h=>h) (Or.inl ⟨by rfl, ?_⟩) c ?_
       ·intro u hu;try dsimp only at hu
        go_simp
        try with_reducible rfl
       try simp only[Act.put,upA,upB,upC]
       clear ew;refine af 9 (fun K b=>?_);go_simp
       obtain⟨T,U⟩:=ah R.heap.size;obtain⟨wb,C⟩:=ah (R.alloc (.cells #[.slice O s.asks.length P,.int .i64 s.on,.slice none 0 0,.int .i64 s.els,.int .i64 s.fall,.bool s.fin,.bool s.bad,.string s.give,.slice none 0 0,.int .i64 0,.slice none 0 0,.int .i64 0,.int .i64 0,.bool true,.bool false,.string ⟨#[114]⟩] 83));have D:K_ R wb:=by rw[C];exact ag _ _
       have V:=J.o.steps;rw[<-C,<-U] at V;have b8:=Kz V;have B:=Kz (A.o.kept D);have W:=Kz (J.o.kept D);have b9:=Kz (b7.o.kept D);rw[<-C,<-U];refine b.out _ _ (fun _=>n.o _ _ _ B.o W.o) ?_;clear b K c V C U D;have c:=n.o _ _ _ B.o W.o;try simp only[Act.put,upA,upB,upC]
       refine ae 10 c ?_;refine ae 11 c ?_;refine af 12 (fun K b=>?_);go_simp
       have l:K_ wb (wb.alloc (.cells #[.string m,.int .i64 (1+ (e:Int)),.slice (some ⟨T,0,none⟩) 2 2] 79)):=ag _ _;have X:=Kz (B.o.kept l);have Y:=Kz (W.o.kept l);refine b.out _ _ (fun _=>n.o _ _ _ X.o Y.o) ?_;clear b K c;try simp only[Act.put,upA,upB,upC]
       refine af 13 (fun K b=>?_);have E:=X.o.own;rw[j.o] at E;have c8:=X.o.kb.size;have c9:Hid (Qz.TinyN 20 ⟨m,1+ (e:Int),[s,bL ⟨#[114]⟩]⟩):=⟨by show m.size<=300;omega,by show -1000<=1+ (e:Int)/\1+ (e:Int)<=1000;omega,by show 2<=21;omega,fun a4 hy=>xD (p:=fun a4=>a4.TinyN 20) hy Y.o.tiny (iq (g:=⟨#[114]⟩) (show (1:Nat)<=300 by omega))⟩;refine step_append_lies _ rfl (.tmp 51) (.tmp 62) 23 rfl (w.alloc (.cells #[.slice none 0 0] 25)).heap.size 79 f1 _ 3 48 underlying23 f2 f3 f4 f5 rfl (by decide) (.slice av k cv) k xs (by simp[Act.eval]) E ⟨wb.heap.size,0,none⟩ 1 1 [.string m,.int .i64 (1+ (e:Int)),.slice (some ⟨T,0,none⟩) 2 2] (by simp[Act.eval]) rfl (mi _ _ _ _) (mI _ _ _ _ _) (by omega) (by unfold maxLen;omega) (by omega) c8 _ rfl ?_;intro g a5 Z a6 F d0 i0;have q:=B.o.fw l (by rw[j.o];exact F);have y6:=q.1;rw[j.o] at y6;have i3:=q.2.lt;have i4:=(q.2.row.at (i:=0) (by omega)).2;obtain⟨vo,i5⟩:=(q.2.row.at (i:=0) (by omega)).1;have a7:=b8.o.same (u:=25) (.aC l) (by decide) (by decide) (by decide);have d1:Hid (fD 20 (w.alloc (.cells #[.slice none 0 0] 25)) (Z.setCell ⟨w.heap.size+1,0,none⟩ (.slice (some ⟨g,0,none⟩) (k+1) a5)) p (w.heap.size+1) a r x (N+2) (.slice (some ⟨g,0,none⟩) (k+1) a5) (a1++ [⟨m,1+ (e:Int),[s,bL ⟨#[114]⟩]⟩]) (xs++ [.string m,.int .i64 (1+ (e:Int)),.slice (some ⟨T,0,none⟩) 2 2])):=
        B.o.push (d:=⟨m,1+ (e:Int),[s,bL ⟨#[114]⟩]⟩) l a7 c9.o (by rw[j.o];exact a6) (by rw[j.o];exact F)
       have a0:=ak.aK E F;have d2:Hid (au Z w.heap.size 25 1):=by
        obtain⟨a8,g1,g2⟩:=b9.o.kept l;exact⟨a8,a0 _ a8 _ _ (by decide) g1,g2⟩
       have f:=Y.o.box.same a0 (by decide);have a9:(fun (v:KH)=>v.cell? ⟨w.heap.size+1,0,none⟩=some (.slice av k cv)/\v.cell? ⟨w2.heap.size+1,0,none⟩=some (.slice O s.asks.length P)/\v.cell? ⟨w2.heap.size+1,1,none⟩=some (.int .i64 s.on)/\v.cell? ⟨w2.heap.size+1,2,none⟩=some (.slice none 0 0)/\v.cell? ⟨w2.heap.size+1,3,none⟩=some (.int .i64 s.els)/\v.cell? ⟨w2.heap.size+1,4,none⟩=some (.int .i64 s.fall)/\v.cell? ⟨w2.heap.size+1,5,none⟩=some (.bool s.fin)/\v.cell? ⟨w2.heap.size+1,6,none⟩=some (.bool s.bad)/\v.cell? ⟨w2.heap.size+1,7,none⟩=some (.string s.give)) Z:=⟨y6,f.c0,f.c1,f.c2,f.c3,f.c4,f.c5,f.c6,f.c7⟩;clear q E a6 F d0 a0 l a7 f;refine b.out _ _ (fun _=>a9) ?_;clear b K;try simp only[Act.put,upA,upB,upC]
       have c:=a9;refine ae 14 c ?_;refine af 15 (fun K b=>?_);go_simp
       refine b.out _ _ (fun h=>Ki rfl h) ?_;clear b K;try simp only[Act.put,upA,upB,upC]
       refine ay ?_;go_wp2
       go_roundg (gk-1)
       case rel=>exact⟨k+1,N+2,_,_,_,by go_num,by omega,by rw[JH,j.o];rfl,by omega,by omega,d2.o.block (Below.heap_setCell _ _ _ _ (by simp)),d1.o⟩
       case measure=>omega
      ·go_simp
       obtain⟨T,U⟩:=ah wl.heap.size;obtain⟨wb,C⟩:=ah (wl.alloc (.cells #[.slice O s.asks.length P,.int .i64 s.on,.slice none 0 0,.int .i64 s.els,.int .i64 s.fall,.bool s.fin,.bool s.bad,.string s.give,.slice none 0 0,.int .i64 0,.slice none 0 0,.int .i64 0,.int .i64 0,.bool true,.bool false,.string ⟨#[114]⟩] 83));have D:K_ wl wb:=by rw[C];exact ag _ _
       have V:=a3.o.steps;rw[<-C,<-U] at V;have b8:=Kz V;have B:=Kz (Q.o.kept D);have W:=Kz (a3.o.kept D);have b9:=Kz (e0.o.kept D);rw[<-C,<-U];refine b.out _ _ (fun _=>n.o _ _ _ B.o W.o) ?_;clear b K c V C U D;have c:=n.o _ _ _ B.o W.o;try simp only[Act.put,upA,upB,upC]
       refine ai 5 (fun K b=>?_);go_simp
       go_at_call 21
       refine (aI _ p a r x (N+1) _ 4 rfl B.o.rd (by omega) (by omega) b0).mono ?_;rintro L R ⟨e,rfl,h9,S,y⟩;have A:=Kz (B.o.drawn S y);have J:=Kz (W.o.drawn f0 S y);have b7:=Kz (b9.o.but y d8);have f7:=Kz (b8.o.same (y.sameKind B.o.rd) (by decide) (by decide) (by decide));dsimp only;refine b.out _ _ (fun _=>n.o _ _ _ A.o J.o) ?_;clear b K c S y;have c:=n.o _ _ _ A.o J.o;try simp only[Act.put,upA,upB,upC]
       have ew:IntKind.i64.wrap (1+ (e:Int))=1+ (e:Int):=by simp[IntKind.wrap,IntKind.bits,IntKind.signed];omega
       refine Qk.take 6 [10,11,12,13,14,15] (v:= .int .i64 (1+ (e:Int))) (by (simp only[Kw,JW,JX];rfl)) (by kernel_rfl) (by kernel_rfl) (by kernel_rfl) (by kernel_rfl) (by exact fun _ _ _ h=>h) (Or.inl ⟨by rfl, ?_⟩) c ?_
       ·intro u hu;try dsimp only at hu
        go_simp
        try with_reducible rfl
       try simp only[Act.put,upA,upB,upC]
       clear ew;refine ae 10 c ?_;refine ae 11 c ?_;refine af 12 (fun K b=>?_);go_simp
       have l:K_ R (R.alloc (.cells #[.string m,.int .i64 (1+ (e:Int)),.slice (some ⟨T,0,none⟩) 2 2] 79)):=ag _ _;have X:=Kz (A.o.kept l);have Y:=Kz (J.o.kept l);refine b.out _ _ (fun _=>n.o _ _ _ X.o Y.o) ?_;clear b K c;try simp only[Act.put,upA,upB,upC]
       refine af 13 (fun K b=>?_);have E:=X.o.own;rw[j.o] at E;have c8:=X.o.kb.size;have c9:Hid (Qz.TinyN 20 ⟨m,1+ (e:Int),[s,bL ⟨#[114]⟩]⟩):=⟨by show m.size<=300;omega,by show -1000<=1+ (e:Int)/\1+ (e:Int)<=1000;omega,by show 2<=21;omega,fun a4 hy=>xD (p:=fun a4=>a4.TinyN 20) hy Y.o.tiny (iq (g:=⟨#[114]⟩) (show (1:Nat)<=300 by omega))⟩;refine step_append_lies _ rfl (.tmp 51) (.tmp 62) 23 rfl (w.alloc (.cells #[.slice none 0 0] 25)).heap.size 79 f1 _ 3 48 underlying23 f2 f3 f4 f5 rfl (by decide) (.slice av k cv) k xs (by simp[Act.eval]) E ⟨R.heap.size,0,none⟩ 1 1 [.string m,.int .i64 (1+ (e:Int)),.slice (some ⟨T,0,none⟩) 2 2] (by simp[Act.eval]) rfl (mi _ _ _ _) (mI _ _ _ _ _) (by omega) (by unfold maxLen;omega) (by omega) c8 _ rfl ?_;intro g a5 Z a6 F d0 i0;have q:=A.o.fw l (by rw[j.o];exact F);have y6:=q.1;rw[j.o] at y6;have i3:=q.2.lt;have i4:=(q.2.row.at (i:=0) (by omega)).2;obtain⟨vo,i5⟩:=(q.2.row.at (i:=0) (by omega)).1;have a7:=f7.o.same (u:=25) (.aC l) (by decide) (by decide) (by decide);have d1:Hid (fD 20 (w.alloc (.cells #[.slice none 0 0] 25)) (Z.setCell ⟨w.heap.size+1,0,none⟩ (.slice (some ⟨g,0,none⟩) (k+1) a5)) p (w.heap.size+1) a r x (N+2) (.slice (some ⟨g,0,none⟩) (k+1) a5) (a1++ [⟨m,1+ (e:Int),[s,bL ⟨#[114]⟩]⟩]) (xs++ [.string m,.int .i64 (1+ (e:Int)),.slice (some ⟨T,0,none⟩) 2 2])):=
        A.o.push (d:=⟨m,1+ (e:Int),[s,bL ⟨#[114]⟩]⟩) l a7 c9.o (by rw[j.o];exact a6) (by rw[j.o];exact F)
       have a0:=ak.aK E F;have d2:Hid (au Z w.heap.size 25 1):=by
        obtain⟨a8,g1,g2⟩:=b7.o.kept l;exact⟨a8,a0 _ a8 _ _ (by decide) g1,g2⟩
       have f:=Y.o.box.same a0 (by decide);have a9:(fun (v:KH)=>v.cell? ⟨w.heap.size+1,0,none⟩=some (.slice av k cv)/\v.cell? ⟨w2.heap.size+1,0,none⟩=some (.slice O s.asks.length P)/\v.cell? ⟨w2.heap.size+1,1,none⟩=some (.int .i64 s.on)/\v.cell? ⟨w2.heap.size+1,2,none⟩=some (.slice none 0 0)/\v.cell? ⟨w2.heap.size+1,3,none⟩=some (.int .i64 s.els)/\v.cell? ⟨w2.heap.size+1,4,none⟩=some (.int .i64 s.fall)/\v.cell? ⟨w2.heap.size+1,5,none⟩=some (.bool s.fin)/\v.cell? ⟨w2.heap.size+1,6,none⟩=some (.bool s.bad)/\v.cell? ⟨w2.heap.size+1,7,none⟩=some (.string s.give)) Z:=⟨y6,f.c0,f.c1,f.c2,f.c3,f.c4,f.c5,f.c6,f.c7⟩;clear q E a6 F d0 a0 l a7 f;refine b.out _ _ (fun _=>a9) ?_;clear b K;try simp only[Act.put,upA,upB,upC]
       have c:=a9;refine ae 14 c ?_;refine af 15 (fun K b=>?_);go_simp
       refine b.out _ _ (fun h=>Ki rfl h) ?_;clear b K;try simp only[Act.put,upA,upB,upC]
       refine ay ?_;go_wp2
       go_roundg (gk-1)
       case rel=>exact⟨k+1,N+2,_,_,_,by go_num,by omega,by rw[JH,j.o];rfl,by omega,by omega,d2.o.block (Below.heap_setCell _ _ _ _ (by simp)),d1.o⟩
       case measure=>omega
     ·go_simp
      obtain⟨T,U⟩:=ah wd.heap.size;obtain⟨wb,C⟩:=ah (wd.alloc (.cells #[.slice O s.asks.length P,.int .i64 s.on,.slice none 0 0,.int .i64 s.els,.int .i64 s.fall,.bool s.fin,.bool s.bad,.string s.give,.slice none 0 0,.int .i64 0,.slice none 0 0,.int .i64 0,.int .i64 0,.bool true,.bool false,.string ⟨#[114]⟩] 83));have D:K_ wd wb:=by rw[C];exact ag _ _
      have V:=b6.o.steps;rw[<-C,<-U] at V;have b8:=Kz V;have B:=Kz (d9.o.kept D);have W:=Kz (b6.o.kept D);have b9:=Kz (f6.o.kept D);rw[<-C,<-U];refine b.out _ _ (fun _=>n.o _ _ _ B.o W.o) ?_;clear b K c V C U D;have c:=n.o _ _ _ B.o W.o;try simp only[Act.put,upA,upB,upC]
      refine ai 3 (fun K b=>?_);go_simp
      go_at_call 24
      refine (iW _ k _ rfl (by omega)).mono ?_;rintro L wl ⟨m,rfl,l3,kl⟩;have Q:=Kz (B.o.kept kl);have a3:=Kz (W.o.kept kl);have e0:=Kz (b9.o.kept kl);have l4:=Kz (b8.o.same (u:=25) (.aC kl) (by decide) (by decide) (by decide));dsimp only;refine b.out _ _ (fun _=>n.o _ _ _ Q.o a3.o) ?_;clear b K c;have c:=n.o _ _ _ Q.o a3.o;try simp only[Act.put,upA,upB,upC]
      refine ai 5 (fun K b=>?_);go_simp
      go_at_call 21
      refine (aI _ p a r x (N+1) _ 4 rfl Q.o.rd (by omega) (by omega) b0).mono ?_;rintro L R ⟨e,rfl,h9,S,y⟩;have A:=Kz (Q.o.drawn S y);have J:=Kz (a3.o.drawn f0 S y);have b7:=Kz (e0.o.but y d8);have f7:=Kz (l4.o.same (y.sameKind Q.o.rd) (by decide) (by decide) (by decide));dsimp only;refine b.out _ _ (fun _=>n.o _ _ _ A.o J.o) ?_;clear b K c S y;have c:=n.o _ _ _ A.o J.o;try simp only[Act.put,upA,upB,upC]
      have ew:IntKind.i64.wrap (1+ (e:Int))=1+ (e:Int):=by simp[IntKind.wrap,IntKind.bits,IntKind.signed];omega
      refine Qk.take 6 [10,11,12,13,14,15] (v:= .int .i64 (1+ (e:Int))) (by (simp only[Kw,JW,JX];rfl)) (by kernel_rfl) (by kernel_rfl) (by kernel_rfl) (by kernel_rfl) (by exact fun _ _ _ h=>h) (Or.inl ⟨by rfl, ?_⟩) c ?_
      ·intro u hu;try dsimp only at hu
       go_simp
       try with_reducible rfl
      try simp only[Act.put,upA,upB,upC]
      clear ew;refine ae 10 c ?_;refine ae 11 c ?_;refine af 12 (fun K b=>?_);go_simp
      have l:K_ R (R.alloc (.cells #[.string m,.int .i64 (1+ (e:Int)),.slice (some ⟨T,0,none⟩) 2 2] 79)):=ag _ _;have X:=Kz (A.o.kept l);have Y:=Kz (J.o.kept l);refine b.out _ _ (fun _=>n.o _ _ _ X.o Y.o) ?_;clear b K c;try simp only[Act.put,upA,upB,upC]
      refine af 13 (fun K b=>?_);have E:=X.o.own;rw[j.o] at E;have c8:=X.o.kb.size;have c9:Hid (Qz.TinyN 20 ⟨m,1+ (e:Int),[s,bL ⟨#[114]⟩]⟩):=⟨by show m.size<=300;omega,by show -1000<=1+ (e:Int)/\1+ (e:Int)<=1000;omega,by show 2<=21;omega,fun a4 hy=>xD (p:=fun a4=>a4.TinyN 20) hy Y.o.tiny (iq (g:=⟨#[114]⟩) (show (1:Nat)<=300 by omega))⟩;refine step_append_lies _ rfl (.tmp 51) (.tmp 62) 23 rfl (w.alloc (.cells #[.slice none 0 0] 25)).heap.size 79 f1 _ 3 48 underlying23 f2 f3 f4 f5 rfl (by decide) (.slice av k cv) k xs (by simp[Act.eval]) E ⟨R.heap.size,0,none⟩ 1 1 [.string m,.int .i64 (1+ (e:Int)),.slice (some ⟨T,0,none⟩) 2 2] (by simp[Act.eval]) rfl (mi _ _ _ _) (mI _ _ _ _ _) (by omega) (by unfold maxLen;omega) (by omega) c8 _ rfl ?_;intro g a5 Z a6 F d0 i0;have q:=A.o.fw l (by rw[j.o];exact F);have y6:=q.1;rw[j.o] at y6;have i3:=q.2.lt;have i4:=(q.2.row.at (i:=0) (by omega)).2;obtain⟨vo,i5⟩:=(q.2.row.at (i:=0) (by omega)).1;have a7:=f7.o.same (u:=25) (.aC l) (by decide) (by decide) (by decide);have d1:Hid (fD 20 (w.alloc (.cells #[.slice none 0 0] 25)) (Z.setCell ⟨w.heap.size+1,0,none⟩ (.slice (some ⟨g,0,none⟩) (k+1) a5)) p (w.heap.size+1) a r x (N+2) (.slice (some ⟨g,0,none⟩) (k+1) a5) (a1++ [⟨m,1+ (e:Int),[s,bL ⟨#[114]⟩]⟩]) (xs++ [.string m,.int .i64 (1+ (e:Int)),.slice (some ⟨T,0,none⟩) 2 2])):=
       A.o.push (d:=⟨m,1+ (e:Int),[s,bL ⟨#[114]⟩]⟩) l a7 c9.o (by rw[j.o];exact a6) (by rw[j.o];exact F)
      have a0:=ak.aK E F;have d2:Hid (au Z w.heap.size 25 1):=by
       obtain⟨a8,g1,g2⟩:=b7.o.kept l;exact⟨a8,a0 _ a8 _ _ (by decide) g1,g2⟩
      have f:=Y.o.box.same a0 (by decide);have a9:(fun (v:KH)=>v.cell? ⟨w.heap.size+1,0,none⟩=some (.slice av k cv)/\v.cell? ⟨w2.heap.size+1,0,none⟩=some (.slice O s.asks.length P)/\v.cell? ⟨w2.heap.size+1,1,none⟩=some (.int .i64 s.on)/\v.cell? ⟨w2.heap.size+1,2,none⟩=some (.slice none 0 0)/\v.cell? ⟨w2.heap.size+1,3,none⟩=some (.int .i64 s.els)/\v.cell? ⟨w2.heap.size+1,4,none⟩=some (.int .i64 s.fall)/\v.cell? ⟨w2.heap.size+1,5,none⟩=some (.bool s.fin)/\v.cell? ⟨w2.heap.size+1,6,none⟩=some (.bool s.bad)/\v.cell? ⟨w2.heap.size+1,7,none⟩=some (.string s.give)) Z:=⟨y6,f.c0,f.c1,f.c2,f.c3,f.c4,f.c5,f.c6,f.c7⟩;clear q E a6 F d0 a0 l a7 f;refine b.out _ _ (fun _=>a9) ?_;clear b K;try simp only[Act.put,upA,upB,upC]
      have c:=a9;refine ae 14 c ?_;refine af 15 (fun K b=>?_);go_simp
      refine b.out _ _ (fun h=>Ki rfl h) ?_;clear b K;try simp only[Act.put,upA,upB,upC]
      refine ay ?_;go_wp2
      go_roundg (gk-1)
      case rel=>exact⟨k+1,N+2,_,_,_,by go_num,by omega,by rw[JH,j.o];rfl,by omega,by omega,d2.o.block (Below.heap_setCell _ _ _ _ (by simp)),d1.o⟩
      case measure=>omega
  ·have y0:=HO.o.c0;rw[j.o] at y0;have zb:=HO.o.row.lt;have hG:=HO.o.web;rw[j.o] at hG;have f8:=rT wO av cv a1 (mN:=20) (by omega) (by have:=j.o;omega) HO.o.tiny (by rw[j.o];exact hG);rw[j.o] at f8;have l5:=Kz f8;clear hG f8;go_wp2_with fail
   refine l5.o.mono ?_;intro L w6 hs;obtain⟨va,vn,vc,rfl,e1,hD⟩:=HO.o.sorted (p:=b1) (t:=400) hs b2.o (IZ _) k0 i6.o (by omega) (by omega);have⟨HD,l6⟩:=aD hD e1;have z6:=e1.lt;obtain⟨⟨_,u0⟩,e8⟩:=e1.row.at (i:=0) (by omega);clear hD e1 hs;go_wp2
   have hR:=Jc w6 w.heap.size 0 [.slice va vn vc] (l6.o.row.there (o:=0) (m:=1) (IZ _));exact Zx [.slice va vn vc] _ results22 rfl hR underlying25 rfl Tryz.fC rfl HD.o
theorem FY(w:KH)(s:KC)(d:s.size<=maxLen):
  Calls prog 176 #[.string s] w fun e w'=>e= .returned (.int .u64 (sumOf s.data.toList))/\K_ w w':=by
 unfold maxLen at d;obtain⟨l,C,f,h,a⟩:=vU w s;go_enter func176,ntmps176
 go_wp2
 clear h;go_loopw [3,9] (fun x i wr=>∃k:Nat,k<=s.size/\i= .int .i64 k/\x= .int .u64 ((s.data.toList.take k).foldl dE 14695981039346656037)/\wr= (w.alloc (.cells C 5 f)).drew) (fun _ i _=>s.size-(intOf i).toNat)
 case atStart=>exact⟨0,Ja _,rfl,rfl,rfl⟩
 case round=>
  obtain⟨k,m,rfl,rfl,rfl⟩:=hrel;by_cases b:k<s.size
  ·have n:=a k b;have c:k<s.data.toList.length:=by simpa using b
   have j:Hid ((s.data.toList.take (k+1)).foldl dE 14695981039346656037=dE ((s.data.toList.take k).foldl dE 14695981039346656037) s[k]):=by
    have e:=qg s.data.toList k c;rw[List.getD_eq_getElem?_getD,Jd c,Kl] at e;exact e
   generalize (s.data.toList.take k).foldl dE 14695981039346656037=v at *;clear a;go_wp2
   go_roundw
   case rel=>exact⟨k+1,by omega,by go_num,by rw[j.o];rw[xu];rfl,by first | rfl | trivial⟩
   case measure=>simp[intOf];omega
  ·go_wp2
   go_ret
   have:k=s.data.toList.length:=by simp;omega
   subst this;rw[JB];exact⟨rfl,(ag _ _).drew⟩
theorem Ib(u:Nat)(h:u<18446744073709551616):bits BinOp.and IntKind.u64 (u:Int) 15= ((u % 16:Nat):Int):=by
 have e:=bits_and_u64_nat u 15 h (by omega);rw[show ((15:Nat):Int)=15 from rfl] at e;rw[e,show (15:Nat)=2 ^ 4-1 from rfl,Nat.and_two_pow_sub_one_eq_mod]
theorem Fq{j v:Nat}(h:v<18446744073709551616)(a:16<=v / 16 ^ j):j+1<=15:=by
 have b:16 ^ (j+1)<=v:=by
  rw[Nat.pow_succ];have:=Nat.div_mul_le_self v (16 ^ j);have:=Nat.mul_le_mul_right (16 ^ j) a;rw[Nat.mul_comm] at this;omega
 apply Decidable.byContradiction;intro c;have d:16 ^ 16<=16 ^ (j+1):=Nat.pow_le_pow_right (by omega) (by omega);have e:(16:Nat) ^ 16=18446744073709551616:=by decide
 omega
theorem Row.at0{b i:Nat}(h:Row w b n)(c:i<n):(∃v,w.cell? ⟨b,i,none⟩=some v)/\w.frozen? ⟨b,i,none⟩=false:=by
 obtain⟨t,f,h⟩:=h;exact⟨⟨_,h.cell c⟩,h.frozen i⟩
theorem G_(n:Nat)(h:n<16)(b:n<(⟨#[48,49,50,51,52,53,54,55,56,57,97,98,99,100,101,102,103,104,105,106,107,108,109,110,111,112,113,114,115,116,117,118,119,120,121,122]⟩:KC).size):
  (⟨#[48,49,50,51,52,53,54,55,56,57,97,98,99,100,101,102,103,104,105,106,107,108,109,110,111,112,113,114,115,116,117,118,119,120,121,122]⟩:KC)[n]=mW n:=by
 have:∀m:Fin 16,(⟨#[48,49,50,51,52,53,54,55,56,57,97,98,99,100,101,102,103,104,105,106,107,108,109,110,111,112,113,114,115,116,117,118,119,120,121,122]⟩:KC)[m.val]'(I_ m.isLt (by decide))=mW m.val:=by decide+kernel
 exact this ⟨n,h⟩
def Written(w:KH)(B v j:Nat):Prop:=∀t,t<j->w.cell? ⟨B,64-t,none⟩=some (.int .u8 ((mW (v / 16 ^ t % 16)).toNat:Int))
theorem Written.set{B v j:Nat}{old:KI}(h:Written w B v j)(c:p+1+j=65)(a:w.cell? ⟨B,p,none⟩=some old){d:UInt8}(b:d=mW (v / 16 ^ j % 16)):Written (w.setCell ⟨B,p,none⟩ (.int .u8 (d.toNat:Int))) B v (j+1):=by
 intro t f;by_cases e:t=j
 ·subst e;have:64-t=p:=by omega
  rw[this,JZ _ _ _ a,b]
 ·rw[Jr _ _ _ _ (by simp <;> omega)];exact h t (by omega)
theorem Tryz.Ip :∃zs:Array KI,zs.size=65/\∀W,(zeroValue 266).run prog W= .ok (.agg zs) W:=⟨Array.replicate 65 (.int .u8 0),by simp,fun W=>by kernel_rfl⟩
theorem Tryz.FP :prog.arrayLen 266=65:=by kernel_rfl
theorem Tryz.Ir :prog.underlying 266=some (.array (prog.arrayLen 266) (prog.elem 266)):=by kernel_rfl
theorem Tryz.GI :prog.elem 266=5:=by kernel_rfl
theorem IR(W:KH)(B p:Nat)(d:p<=64):(Instr.sliceAt 266 (.pointer (some ⟨B,0,none⟩)) (some (.int .i64 (p:Int))) none none).run prog W= .ok (.slice (some ⟨B,p,none⟩) (65-p) (65-p)) W:=by
 rw[run_sliceAt_array_l W 266 ⟨B,0,none⟩ Tryz.Ir .i64 p (by omega) (by rw[Tryz.FP];omega),Tryz.GI,Tryz.FP,Tryz.sizeOf5];have b:¬(65:Nat)=p:=by omega
 simp[Result.andThen,slicedAt,Addr.add,b];intro h;exact h.symm
theorem IK(W:KH)(B v j p:Nat)(f:p+1+j=65)(h:Written W B v (j+1)):(convert 22 9 (.slice (some ⟨B,p,none⟩) (65-p) (65-p))).run prog W= .ok (.string ⟨(iY (j+1) v).toArray⟩) W:=by
 have b:(iY (j+1) v).length=65-p:=by rw[gW];omega
 have e:=run_convert_bytes_back (P:=prog) W 22 9 5 ⟨B,p,none⟩ (65-p) (iY (j+1) v) underlying22 underlying5 underlying9 (fun i k=>by
  have a:=h (j-i) (by omega);have c:64-(j-i)=p+i:=by omega
  rw[c] at a;have d:(⟨B,p,none⟩:Addr).add i= ⟨B,p+i,none⟩:=by simp[Addr.add]
  rw[Ao,Nat.add_sub_cancel,d];exact a)
 rw[b] at e;exact e
theorem uV(w:KH)(v:Nat)(m:v<18446744073709551616)(E:mO w):
  Calls prog 206 #[.slice none 0 0,.int .u64 v,.int .i64 16,.bool false,.bool false] w fun e w'=>(∃(n:Nat) (b:KC),e= .returned (.tuple #[.slice none 0 0,.string b])/\b.data.toList=iY n v/\1<=n/\n<=16/\v<16 ^ n)/\K_ w w':=by
 obtain⟨a,h,O⟩:=Tryz.Ip;have P:¬a= #[]:=fun e=>by rw[e] at h;simp at h
 go_enter func206,ntmps206
 go_wp2_with (first | (go_at_call 213;refine (II _ (E.kept (by repeat (first | apply K_.alloc | exact K_.refl _)))).mono ?_;rintro e w1 ⟨rfl,rfl⟩) | go_in)
 have q:Row (w.alloc (.cells a 266)) w.heap.size 65:=by have:=Row.made w a 266;rw[h] at this;exact this
 have r:K_ w (w.alloc (.cells a 266)):=ag _ _;go_loopw [1,13] (fun u F wr=>∃j:Nat,j<=15/\u= .int .u64 ((v / 16 ^ j:Nat):Int)/\(∃p:Nat,p+1+j=65/\F= .int .i64 ((p:Int)+1))/\K_ w wr/\Row wr w.heap.size 65/\Written wr w.heap.size v j) (fun u _ _=>(intOf u).toNat)
 case atStart=>exact⟨0,by omega,by simp,⟨64,by omega,rfl⟩,r,q,fun Q G=>aP G⟩
 case round=>
  obtain⟨j,R,rfl,⟨p,i,rfl⟩,s,k,t⟩:=hrel;clear q r;obtain⟨c,S⟩:=k.at0 (i:=p) (by omega);obtain⟨old,c⟩:=c;have⟨H,x⟩:=aD k t;clear k t;have I:v / 16 ^ j<18446744073709551616:=Nat.lt_of_le_of_lt (Nat.div_le_self _ _) m;have y:v / 16 ^ j / 16=v / 16 ^ (j+1):=by rw[Nat.div_div_eq_div_mul,Nat.pow_succ]
  have J:=Kz y;clear y;have l:Hid (16<=v / 16 ^ j->j+1<=15):=Fq m;have K:Hid (v / 16 ^ j<16->v<16 ^ (j+1)):=fun L=>by
   have:=Nat.lt_mul_of_div_lt L (Nat.pow_pos (by omega));rw[Nat.pow_succ,Nat.mul_comm];exact this
  generalize A:v / 16 ^ j=u at *;have B:=Kz A;clear A;have T:=Ib u I;have M:u % 16<16:=Nat.mod_lt _ (by omega);by_cases U:(16:Int)<=u
  ·go_wp2
   go_roundw
   case rel=>
    refine⟨j+1,l.o (by omega),by rw[<-J.o];simp,⟨p-1,by have:=l.o (by omega);omega,by congr 1;have:=l.o (by omega);omega⟩,K_.setCell s (IZ _) _,Row.set H.o _ rfl _, ?_⟩;exact Written.set x.o i c (by rw[G_ _ M,B.o])
   case measure=>simp[intOf];omega
  ·have f:u<16:=by omega
   have hcut:∀W,(Instr.sliceAt 266 (.pointer (some ⟨w.heap.size,0,none⟩)) (some (.int .i64 (p:Int))) none none).run prog W= .ok (.slice (some ⟨w.heap.size,p,none⟩) (65-p) (65-p)) W:=fun W=>IR W _ _ (by omega)
   have C:=fun W=>IK W w.heap.size v j p i
   have D:=fun N=>Kz (Written.set x.o i c (d:=(⟨#[48,49,50,51,52,53,54,55,56,57,97,98,99,100,101,102,103,104,105,106,107,108,109,110,111,112,113,114,115,116,117,118,119,120,121,122]⟩:KC)[u]'N) (by rw[G_ _ f,B.o,Nat.mod_eq_of_lt f]))
   have V:=C _ (D (I_ f (by decide))).out;clear C D;go_wp2
   go_ret2
   exact⟨⟨j+1,_,rfl,rfl,by omega,by omega,K.o f⟩,K_.setCell s (IZ _) _⟩
theorem vE(w:KH)(v:Nat)(d:v<18446744073709551616)(f:mO w):
  Calls prog 197 #[.int .u64 v,.int .i64 16] w fun e w'=>(∃(n:Nat) (b:KC),e= .returned (.string b)/\b.data.toList=iY n v/\1<=n/\n<=16/\v<16 ^ n)/\K_ w w':=by
 go_enter func197,ntmps197
 go_wp2_with fail
 refine (uV _ v d f).mono ?_;rintro e w1 ⟨⟨n,b,rfl,a,h,i,c⟩,j⟩;have⟨k,l⟩:=aD a c;clear a c;go_wp2
 go_ret
 exact⟨⟨n,b,rfl,k.o,h,i,l.o⟩,j⟩
theorem ul(w:KH)(v:Nat)(d:v<18446744073709551616)(f:mO w):
  Calls prog 189 #[.int .u64 v,.int .i64 16] w fun e w'=>(∃(n:Nat) (b:KC),e= .returned (.string b)/\b.data.toList=iY n v/\1<=n/\n<=16/\v<16 ^ n)/\K_ w w':=by
 go_enter func189,ntmps189
 go_wp2_with fail
 refine (vE _ v d f).mono ?_;rintro e w1 ⟨⟨n,b,rfl,a,h,i,c⟩,j⟩;have⟨k,l⟩:=aD a c;clear a c;go_wp2
 go_ret
 exact⟨⟨n,b,rfl,k.o,h,i,l.o⟩,j⟩
theorem BC(w:KH)(v:Nat)(d:v<18446744073709551616)(f:mO w):
  Calls prog 175 #[.int .u64 v,.int .i64 16] w fun e w'=>(∃b:KC,e= .returned (.string b)/\b.data.toList=iY 16 v)/\K_ w w':=by
 go_enter func175,ntmps175
 go_wp2_with fail
 refine (ul _ v d f).mono ?_;rintro e w1 ⟨⟨n,b,rfl,a,q,r,c⟩,h⟩;have s:b.size=n:=by have:=congrArg List.length a;rw[gW] at this;simpa using this
 have⟨i,j⟩:=aD a c;clear a c;obtain⟨m,k⟩:∃m:Nat,m+n=16:=⟨16-n,by omega⟩;have t:(16:Int)-(n:Int)= (m:Int):=by omega
 have x:(⟨#[48]⟩:KC).data.toList=[48]:=rfl;have l:(⟨#[48]⟩:KC).size*m<=140737488355328:=by rw[show (⟨#[48]⟩:KC).size=1 from rfl];omega
 have y:(m:Int)<=9223372036854775807:=by omega
 go_wp2_with fail
 refine (Tryz.strings_Repeat ⟨#[48]⟩ m _ (by omega) l).mono ?_;rintro e w2 ⟨rfl,p⟩;have A:(⟨(Lib.repeatL [48] m).toArray⟩:KC).size<=16:=by show (Lib.repeatL [48] m).toArray.size<=16;rw[List.size_toArray,Lib.repeatL_length];simp;omega
 go_wp2
 go_ret
 refine⟨⟨_,rfl, ?_⟩,K_.trans h p⟩;rw[fA,i.o,<-k,yT n v j.o m]
 congr 1
 have:=Lib.repeatL_replicate 48 1 m;simpa using this
def DL(s:KC):Prop:=200<s.size
theorem pI(w:KH)(s:KC):Calls prog 173 #[.string s] w fun e w'=>Says e (DL s)/\w'=w:=by
 by_cases h:(200:Int)<s.size
 ·have b:decide ((200:Int)<s.size)=true:=by simpa using h
  go_enter func173,ntmps173
  go_wp2
  go_ret
  exact⟨Says.congr (p:=True) (Says.yes trivial) ⟨fun _=>by unfold DL;omega,fun _=>trivial⟩,rfl⟩
 ·have b:decide ((200:Int)<s.size)=false:=by simpa using h
  go_enter func173,ntmps173
  go_wp2
  go_ret
  exact⟨Says.congr (p:=False) (Says.no id) ⟨False.elim,fun g=>by unfold DL at g;omega⟩,rfl⟩
def y_(l:List KC):Prop:=∃i,i<l.length/\DL (l.getD i ByteArray.empty)
theorem vJ(w:KH)(a:KG)(v:Nat)(l:List KC)(x:l.length<=maxLen)(y:Strs w a l):
  Calls prog 185 #[.slice a l.length v,.func (.func 173) #[] #[]] w fun e w'=>(∃r,e= .returned (.int .i64 r)/\(0<=r↔y_ l))/\w'=w:=by
 unfold maxLen at x;go_enter func185,ntmps185
 go_wp2
 go_loop [8] (fun i=>∃k:Nat,k<=l.length/\i= .int .i64 k/\∀j,j<k->¬DL (l.getD j ByteArray.empty)) (fun i=>l.length-(intOf i).toNat)
 case atStart=>exact⟨0,Ja _,rfl,fun j h=>aP h⟩
 case round=>
  obtain⟨k,D,rfl,m⟩:=hrel;have n:=Kz m;clear m;by_cases p:k<l.length
  ·obtain⟨b,o,rfl,E,A⟩:=y k p;obtain⟨c,d⟩:=ah (l.getD k ByteArray.empty);rw[<-d] at A;have q:=Kz d;clear d;go_wp2_with fail
   refine (pI _ c).mono ?_;rintro e w1 ⟨f,rfl⟩;rcases f.cases with⟨rfl,s⟩|⟨rfl,t⟩
   ·have B:=Kz s;clear s f;go_wp2
    go_ret
    exact⟨⟨k,rfl,⟨fun _=>⟨k,p,by rw[<-q.o];exact B.o⟩,fun _=>by omega⟩⟩,rfl⟩
   ·have C:=Kz t;clear t f;go_wp2
    go_round
    case rel=>
     refine⟨k+1,by omega,by go_num,fun j h=>?_⟩;by_cases e:j=k
     ·subst e;rw[<-q.o];exact C.o
     ·exact n.o j (by omega)
    case measure=>simp[intOf];omega
  ·go_wp2
   go_ret
   exact⟨⟨-1,rfl,⟨fun F=>by omega,fun ⟨i,G,e⟩=>Ki e (n.o i (by omega))⟩⟩,rfl⟩
theorem qE(w:KH)(a:KG)(d:Nat)(l:List KC)(i:l.length<=maxLen)(j:Strs w a l):
  Calls prog 172 #[.slice a l.length d,.func (.func 173) #[] #[]] w fun e w'=>Says e (y_ l)/\w'=w:=by
 go_enter func172,ntmps172
 go_wp2_with fail
 refine (vJ _ a d l i j).mono ?_;rintro e w1 ⟨⟨r,rfl,f⟩,rfl⟩;have h:=Kz f;clear f;by_cases c:0<=r
 ·have k:decide (0<=r)=true:=by simpa using c
  go_wp2
  go_ret
  exact⟨Says.congr (p:=True) (Says.yes trivial) ⟨fun _=>h.o.1 c,fun _=>trivial⟩,rfl⟩
 ·have k:decide (0<=r)=false:=by simpa using c
  go_wp2
  go_ret
  exact⟨Says.congr (p:=False) (Says.no id) ⟨False.elim,fun m=>by have:=h.o.2 m;omega⟩,rfl⟩
theorem ES(w:KH)(a:KG)(c:Nat)(l:List KC)(h:l.length<=c)(t:l.length<=100)(i:(Lib.join (texts l) [44]).length<=140737488355328)(d:Strs w a l):
  Calls prog 174 #[.slice a l.length c,.string ⟨#[44]⟩] w fun e w'=>(∃b:KC,e= .returned (.string b)/\b.data.toList=Lib.join (texts l) [44])/\K_ w w':=by
 by_cases j:l.length=0
 ·have k:l=[]:=Kn j;subst k;refine (Tryz.strings_Join_none a c ⟨#[44]⟩ w).mono ?_;rintro e w' ⟨rfl,rfl⟩;exact⟨⟨_,rfl,rfl⟩,K_.refl _⟩
 ·obtain⟨b,o,rfl,m,_⟩:=d 0 (by omega);refine (Tryz.strings_Join b o c l ⟨#[44]⟩ w (fun n x p=>?_) m (by omega) h i).mono ?_
  ·obtain⟨f,q⟩:=Je.1 p;obtain⟨v,y,e,_,r⟩:=d n f;simp only[JI,Kv,and_true] at e;obtain⟨rfl,rfl⟩:=e;rw[r];simp[List.getD,f,q]
  ·rintro e w' ⟨rfl,s⟩;exact⟨⟨_,rfl,rfl⟩,s⟩
theorem BI(w:KH)(give:KC)(a:KG)(k:Nat)(l:List KC)(G:give.size<=maxLen)(t:l.length<=maxLen)(x:Strs w a l)(H:l.length<=k)(I:mO w):
  Calls prog 142 #[.string give,.slice a l.length k] w fun e w'=>e= .returned (.string (lX give l))/\K_ w w':=by
 have J:=t;unfold maxLen at G t;by_cases y:(30:Int)<give.size
 ·have n:decide ((30:Int)<give.size)=true:=by simpa using y
  go_enter func142,ntmps142
  go_wp2
  go_ret
  exact⟨kG (jy (.inl (by omega))).symm,K_.refl _⟩
 ·have n:decide ((30:Int)<give.size)=false:=by simpa using y
  by_cases A:(100:Int)<l.length
  ·have p:decide ((100:Int)<l.length)=true:=by simpa using A
   go_enter func142,ntmps142
   go_wp2
   go_ret
   exact⟨kG (jy (.inr (.inl (by omega)))).symm,K_.refl _⟩
  ·have p:decide ((100:Int)<l.length)=false:=by simpa using A
   go_enter func142,ntmps142
   go_wp2_with fail
   refine (qE _ a k l J x).mono ?_;rintro e w1 ⟨b,rfl⟩;rcases b.cases with⟨rfl,f⟩|⟨rfl,h⟩
   ·have i:=Kz f;clear f b n p;go_wp2
    go_ret
    obtain⟨j,d,K⟩:=i.o;exact⟨kG (jy (.inr (.inr ⟨j,d,K⟩))).symm,K_.refl _⟩
   ·have q:Hid (nV give l):=⟨by omega,by omega,fun j d=>by
     apply Decidable.byContradiction;intro T;exact h ⟨j,d,by unfold DL;omega⟩⟩
    clear h b n p;have L:(Lib.join (texts l) [44]).length<=100*201:=by
     have:=Gx (texts l) 200 (fun U B=>by
      simp only[texts,Ju] at B;obtain⟨W,M,rfl⟩:=B;obtain⟨j,d,rfl⟩:=Jk M;have:=q.o.2.2 j d;simpa[List.getD,d] using this)
     rw[jl] at this;omega
    go_wp2_with fail
    refine (ES _ a k l H (by omega) (by omega) x).mono ?_;rintro e w2 ⟨⟨m,rfl,r⟩,C⟩;have X:m.size<=20100:=by have:=congrArg List.length r;simp at this;omega
    have D:Hid ((give++ ⟨#[40]⟩++m++ ⟨#[41]⟩).data.toList=jk give.data.toList (texts l)):=by
     show _=_;rw[fA,fA,fA,r];simp[jk]
    clear r L;have Y:(give++ ⟨#[40]⟩++m++ ⟨#[41]⟩:KC).size<=30000:=by
     have N:(⟨#[40]⟩:KC).size=1:=rfl;have O:(⟨#[41]⟩:KC).size=1:=rfl;simp only[ByteArray.size_append,N,O];omega
    go_wp2_with fail
    generalize (give++ ⟨#[40]⟩++m++ ⟨#[41]⟩:KC)=c at *;refine (pI _ c).mono ?_;rintro e Z ⟨b,rfl⟩;rcases b.cases with⟨rfl,f⟩|⟨rfl,h⟩
    ·have i:Hid (200<c.size):=f;clear f b;go_wp2_with fail
     refine (FY _ c (by unfold maxLen;omega)).mono ?_;rintro e w4 ⟨rfl,P⟩;have E:=K_.trans C P;have a0:=pR c.data.toList;have F:Hid (lX give l= ⟨(35 :: iY 16 (sumOf c.data.toList).toNat).toArray⟩):=xn q.o D.o i.o;generalize sumOf c.data.toList=V at *;obtain⟨v,rfl⟩:∃v:Nat,V=v:=⟨V.toNat,by omega⟩;rw[Int.toNat_natCast] at F;go_wp2_with fail
     refine (BC _ v (by omega) (I.kept E)).mono ?_;rintro e w5 ⟨⟨Q,rfl,s⟩,R⟩;have a1:Q.size=16:=by have:=congrArg List.length s;rw[gW] at this;simpa using this
     have S:=Kz s;clear s;go_wp2
     go_ret
     exact⟨kG (by rw[F.o];apply xQ;rw[fA,S.o];rfl),K_.trans E R⟩
    ·have i:Hid (¬200<c.size):=h;clear h b;go_wp2
     go_ret
     exact⟨kG (uN q.o D.o (by have:=i.o;omega)).symm,C⟩
