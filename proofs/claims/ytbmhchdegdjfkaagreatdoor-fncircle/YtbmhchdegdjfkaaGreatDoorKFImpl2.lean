import Derived.Test.YtbmhchdegdjfkaaGreatDoorKShelf
import Derived.Test.YtbmhchdegdjfkaaGreatDoorKWCheck5
import Derived.Deep.RegionHeldLaw
import Derived.Test.YtbmhchdegdjfkaaGreatDoorKVLead
set_option maxRecDepth 100000
set_option maxHeartbeats 25600000
namespace Go.Proofs.YtbmhchdegdjfkaaGreatDoor
open Go.RowKit Go.Proofs.Tryz
theorem Eu(w:LP)(s:LK)(b:s.size<=1048576):Calls prog 33 #[.string s] w fun e w'=>e= .returned (.string s)/\K_ w w':=by
 go_enter func33,ntmps33
 go_wp2_with fail
 refine (Tryz.stringslite_Clone s _ (by omega)).mono ?_;rintro e w1 ⟨rfl,a⟩;go_wp2
 go_ret
 exact⟨rfl,a⟩
theorem sG(w:LP)(a:LM)(B:Nat)(l:List LK)(N:l.length<=1048576)(C:∀s∈l,s.size<=1048576)(D:Strs w a l):
  Calls prog 30 #[.slice a l.length B,.func (.func 33) #[] #[]] w fun e w'=>∃a',e= .returned (.slice a' l.length l.length)/\jg w' w.heap.size w'.heap.size a' l/\K_ w w':=by
 by_cases r:l.length=0
 ·have E:l=[]:=LB r;subst E;go_enter func30,ntmps30
  go_wp2
  go_ret
  exact⟨none,rfl,.inl rfl,K_.refl _⟩
 ·have F:=run_make_row' (P:=prog) 26 9 _ _ underlying26 Tryz.DF rfl .i64 .i64 l.length (by omega) (by omega);have G:((l.length:Int) == 0)=false:=by simpa using r
  go_enter func30,ntmps30
  go_wp2
  clear F G;have t:Row (w.alloc (.cells (madeCells #[.string ByteArray.empty] l.length) 9)) w.heap.size l.length:=⟨_,_,World.rowIs_made w (.string ByteArray.empty) l.length 9⟩;have v:K_ w (w.alloc (.cells (madeCells #[.string ByteArray.empty] l.length) 9)):=Below.alloc (Below.refl _ _) (JP _) _;go_loopw [16] (fun i wr=>∃k:Nat,k<=l.length/\i= .int .i64 k/\K_ w wr/\Row wr w.heap.size l.length/\∀j,j<k->wr.cell? ⟨w.heap.size,j,none⟩=some (.string (l.getD j ByteArray.empty))) (fun i _=>l.length-(intOf i).toNat)
  case atStart=>exact⟨0,JR _,rfl,v,t,fun j d=>aT d⟩
  case round=>
   obtain⟨k,O,rfl,f,c,x⟩:=hrel;clear t v;have m:=Kz x;by_cases n:k<l.length
   ·obtain⟨b,o,rfl,Q,y⟩:=D.kept f k n;have A:=C (l.getD k ByteArray.empty) (by simp[List.getD,n]);obtain⟨s,p⟩:=aj (l.getD k ByteArray.empty);rw[<-p] at y A;have H:=Kz p;clear p x;have I:=c.lt;go_wp2_with fail
    refine (Eu _ s A).mono ?_;rintro e w1 ⟨rfl,h⟩;have q:=c.kept h;have J:=Kz q;have K:Hid (∀j,j<k->w1.cell? ⟨w.heap.size,j,none⟩=some (.string (l.getD j ByteArray.empty))):=fun j d=>by rw[h.cell I];exact m.o j d
    obtain⟨⟨old,L⟩,R⟩:=q.at n;have M:=f.trans h;clear m c q f h y;go_wp2
    go_roundw
    case rel=>
     refine⟨k+1,by omega,by go_num,M.setCell (JP _) _,J.o.set _ rfl _,fun j d=>?_⟩;by_cases e:j=k
     ·subst e;rw[Ll _ _ _ L,H.o]
     ·rw[Kn _ _ _ _ (by simp <;> omega)];exact K.o j (by omega)
    case measure=>simp[intOf];omega
   ·have:k=l.length:=by omega
    subst this;go_wp2
    go_ret
    exact⟨_,rfl,.inr ⟨w.heap.size,rfl,JP _,c.lt,c,m.o⟩,f⟩
variable {w : LP}
theorem dE{P:Program}{e:Func}{R:Ending->LP->Prop}{a:Act}{p q:Tmp}{c:TypeId}{b:Nat}(cs:List LQ)(d:TypeDesc)(v:LQ)(h:e.results= #[.cell p c,.tmp q])
 (i:a.tmps.getD p undef= .pointer (some ⟨b,0,none⟩)) (j:w.rangeAt b 0 cs) (k:P.underlying c=some d) (l:d.isRow=true) (m:(P.info? c).map (·.size)=some cs.length)
 (n:a.tmps.getD q undef=v) (r:a.defers=[]) (s:R (.returned (.tuple #[.agg cs.toArray,v])) w):bodyPost P e R .ret a w:=by
 refine bodyPost_ret ?_ r s;have t:a.tmps[p]?.getD undef= .pointer (some ⟨b,0,none⟩):=by simpa using i
 have x:a.tmps[q]?.getD undef=v:=by simpa using n
 simp only[results,h];simp[t,x,asAddr,run_loadVar_mid w b 0 c cs d j k l m]
def GD(l:List Qq)(p:Nat):List Qq:=l.take p++l.drop (p+1)
def bS(key:List UInt8)(d:Qq):Bool:= !(d.name.toList == key)
theorem r_(f:Qq->Bool)(l:List Qq)(k:Nat)(h:k<l.length):(l.take (k+1)).filter f= (l.take k).filter f++ (if f (l.getD k Qq.zero)=true then [l.getD k Qq.zero] else []):=by
 rw[JX h,List.filter_append]
 congr 1
 have e:l.getD k Qq.zero=l[k]:=by simp[List.getD,h]
 rw[e];by_cases b:f l[k]=true
 ·simp[b]
 ·simp[b]
theorem lU(d:Qq)(a:LM)(c:Nat):∀u∈([.string d.name,.int .i64 d.cost,.slice a d.steps.length c]:List LQ),u.oneCell'=true:=by
 intro u b;simp only[Lb,Lc,or_false] at b;rcases b with rfl | rfl | rfl <;> rfl
variable {mN : Nat}
theorem x_(w:LP)(cost:Int)(a:LM)(d:Nat)(l:List Xj)(i:mN<=1000)(n:l.length<=21)(j:∀s∈l,s.TinyN mN)(k:jN w a l):
  Calls prog 124 #[.agg #[.int .i64 cost,.slice a l.length d]] w fun e w'=>∃b c,e= .returned (.agg #[.int .i64 cost,.slice b l.length c])/\b_ w' (.slice b l.length c) l/\K_ w w':=by
 refine (Bl w cost a d l (by omega) i j k).mono ?_;rintro e w' ⟨v,q,rfl,f,h,m⟩;obtain⟨b,c,rfl⟩:=ax f;exact⟨b,c,rfl,(StW.fM f h.packed h.ng).g,m⟩
structure CR (w wr w6:LP) (a0:LM) (n cap:Nat):Prop where
 kept:K_ w w6
 size:w.heap.size+3<=w6.heap.size
 arg:w6.cell? ⟨w.heap.size,0,none⟩=some (.slice a0 n cap)
 res:aC w6 (w.heap.size+1) 25 1
 out:aC w6 (w.heap.size+2) 25 1
 below:Below (w.heap.size+3) wr w6
variable {xs : List LQ} {cap cv m n : Nat} {av : LM} {w6 wr : LP}
theorem CR.of{W:LP}{c:LM}(f:K_ w wr)(h:w.heap.size+3<=wr.heap.size)(b:K_ wr W)
 (p0:wr.cell? ⟨w.heap.size,0,none⟩=some (.slice c n cap)) (i:aC wr (w.heap.size+1) 25 1) (j:aC wr (w.heap.size+2) 25 1)
 (d:W.ownsRow (w.heap.size+3) 79 3 (.slice av m cv) m xs) (e:W.grownBy w6 (Value.slice av m cv).ownBlock):CR w wr w6 c n cap:=by
 have l:=b.size;have a:Below (w.heap.size+3) wr w6:=(Below.mono b (by omega)).trans (Below.grown (Below.refl _ _) e (by omega) (fun g k=>(d.lt g k).1));refine⟨aG (f.trans b) (by omega) d e,JS h a.size, ?_,i.block (a.block _ (by omega)),j.block (a.block _ (by omega)),a⟩;rw[Below.cell a (p:=⟨w.heap.size,0,none⟩) (by simp <;> omega)];exact p0
variable {l : List Qq} {ca : Nat} {d : Qq}
theorem CO{W w2:LP}{base:Nat}{a:LM}(c:K_ wr W)(e:K_ w2 W)(f:cB wr xs l)(h:b_ w2 (.slice a d.steps.length ca) d.steps)
 (i:W.ownsRow base 79 3 (.slice av m cv) m xs) (j:W.grownBy w6 (Value.slice av m cv).ownBlock):cB w6 (xs++ [.string d.name,.int .i64 d.cost,.slice a d.steps.length ca]) (l++ [d]):=by
 have b:ay 79 W w6:=ay.aI i j;exact (f.same ((ay.aF c).trans b) (by decide) (by decide) (by decide)).snoc (h.same ((ay.aF e).trans b) (by decide) (by decide) (by decide))
theorem qE(w:LP)(s:LM)(q:Nat)(l:List Qq)(b:LK)(b6:mN<=1000)(hl:l.length<=1000)(hs:∀d∈l,d.TinyN mN)(hS:rG w s l):
  Calls prog 95 #[.agg #[.slice s l.length q],.string b] w fun e w'=>∃a c r base,e= .returned (.agg #[.slice a (l.filter (bS b.toList)).length c])/\w.heap.size<=base/\w'.ownsRow base 79 3 (.slice a (l.filter (bS b.toList)).length c) (l.filter (bS b.toList)).length r/\cB w' r (l.filter (bS b.toList))/\K_ w w':=by
 go_enter func95,ntmps95
 go_wp2
 have k0:K_ w (((w.alloc (.cells #[.slice s l.length q] 25)).alloc (.cells #[.slice none 0 0] 25)).alloc (.cells #[.slice none 0 0] 25)):=((ag _ _).alloc _).alloc _;go_loopw [6] (fun M wr=>∃(k m:Nat) (f:LM) (h:Nat) (r:List LQ),k<=l.length/\M= .int .i64 k/\K_ w wr/\w.heap.size+3<=wr.heap.size/\wr.cell? ⟨w.heap.size,0,none⟩=some (.slice s l.length q)/\aC wr (w.heap.size+1) 25 1/\aC wr (w.heap.size+2) 25 1/\
   wr.cell? ⟨w.heap.size+2,0,none⟩=some (.slice f m h)/\m= ((l.take k).filter (bS b.toList)).length/\wr.ownsRow (w.heap.size+3) 79 3 (.slice f m h) m r/\cB wr r ((l.take k).filter (bS b.toList))) (fun M _=>l.length-(intOf M).toNat)
 case atStart=>
  have G:=Xz ((w.alloc (.cells #[.slice s l.length q] 25)).alloc (.cells #[.slice none 0 0] 25)) #[.slice none 0 0] 25;simp only[KR] at G;refine⟨0,0,none,0,[],JR _,rfl,k0, ?_, ?_, ?_, ?_,G 0 _ rfl,rfl,Ld _ _ _ _,cB.nil _⟩
  ·simp only[KR];omega
  ·rw[K_.cell (w:=w.alloc (.cells #[.slice s l.length q] 25)) ((ag _ _).alloc _) (by simp)];exact Xz w _ _ 0 _ rfl
  ·exact aC.kept (by have:=aC.made (w.alloc (.cells #[.slice s l.length q] 25)) #[.slice none 0 0] 25;simpa using this) (ag _ _)
  ·have:=aC.made ((w.alloc (.cells #[.slice s l.length q] 25)).alloc (.cells #[.slice none 0 0] 25)) #[.slice none 0 0] 25;simpa using this
 case round=>
  clear k0;obtain⟨k,m,f,h,r,hk,rfl,v,hz,H,a0,a1,N,O,a2,hP⟩:=hrel;have d5:w.heap.size<wr.heap.size:=by omega
  have⟨y,a3,I,J,L⟩:=jb a0 a1 a2 hP O;have d6:m<=l.length:=by rw[O];exact JS (List.length_filter_le _ _) (by rw[Kt];omega)
  clear a0 a1 a2 hP O;by_cases P:k<l.length
  ·obtain⟨B,i,Q,R,b7,a4,a5,a6⟩:=hS k P;have A:=v.range a4 a5;have a7:=a6.kept v;subst b7;have d7:B<wr.heap.size:=JQ a4 v.size;clear a5 a6;have S:=hs (l.getD k Qq.zero) (by simp[List.getD,P]);have T:=r_ (bS b.toList) l k P;obtain⟨d,a8⟩:=aj (l.getD k Qq.zero);rw[<-a8] at A a7 S T;have a9:=Kz T;have U:=A 0 _ rfl;have c1:=A 1 _ rfl;have c2:=A 2 _ rfl;rw[La] at U;clear A a8 T;cases b0:(d.name.toList == b.toList)
   ·have C:Hid (∀w',Below (w.heap.size+3) wr w'->w'.cell? ⟨w.heap.size+2,0,none⟩=some (.slice f m h)/\w'.cell? ⟨w.heap.size,0,none⟩=some (.slice (some ⟨B,i,none⟩) l.length q)/\w'.cell? ⟨B,i+k*3,none⟩=some (.string d.name)/\w'.cell? ⟨B,i+k*3+1,none⟩=some (.int .i64 d.cost)/\w'.cell? ⟨B,i+k*3+2,none⟩=some (.slice Q d.steps.length R)):=fun w' D=>⟨(Below.cell D (p:=⟨w.heap.size+2,0,none⟩) (by simp)).trans N,(Below.cell D (p:=⟨w.heap.size,0,none⟩) (by simp <;> omega)).trans H,(Below.cell D (p:=⟨B,i+k*3,none⟩) (by simp <;> omega)).trans U,(Below.cell D (p:=⟨B,i+k*3+1,none⟩) (by simp <;> omega)).trans c1,(Below.cell D (p:=⟨B,i+k*3+2,none⟩) (by simp <;> omega)).trans c2⟩
    have d8:w.heap.size+2<wr.heap.size:=by omega
    obtain⟨b8,b9,c0,c3,c4⟩:=info_parts Tryz.lY;go_wp2
    refine Qx.region (by kernel_rfl) (fun w'=>w'.cell? ⟨w.heap.size+2,0,none⟩=some (.slice f m h)/\w'.cell? ⟨w.heap.size,0,none⟩=some (.slice (some ⟨B,i,none⟩) l.length q)/\w'.cell? ⟨B,i+k*3,none⟩=some (.string d.name)/\w'.cell? ⟨B,i+k*3+1,none⟩=some (.int .i64 d.cost)/\w'.cell? ⟨B,i+k*3+2,none⟩=some (.slice Q d.steps.length R)) 19 ⟨N,H,U,c1,c2⟩ (fun j=>?_);refine au 0 j ?_;refine au 4 j ?_;refine au 8 j ?_;refine af 12 j ?_;refine af 13 j ?_;refine ak 14 (fun K n=>?_);go_simp
    go_at_call 124
    refine (x_ _ d.cost Q R d.steps b6 S.steps S.each (a7.kept (by repeat (first | apply K_.drew | apply K_.alloc | exact K_.refl _)))).mono ?_;rintro e w2 ⟨E,F,rfl,b1,k2⟩;have V:K_ wr w2:=K_.trans (by repeat (first | apply K_.drew | apply K_.alloc | exact K_.refl _)) k2;have b2:Below (w.heap.size+3) wr w2:=Below.mono V (by omega);have d9:=V.size;have e0:w.heap.size+2<w2.heap.size:=by omega
    have c5:=Kz b1;clear b1 k2;dsimp only;refine n.out _ _ (fun _=>C.o w2 b2) ?_;clear n K j;have j:=C.o w2 b2;try simp only[upP]
    refine af 15 j ?_;refine ah 16 (fun K n=>?_);go_simp
    have x:K_ wr (w2.alloc (.cells #[.string d.name,.int .i64 d.cost,.slice E d.steps.length F] 79)):=V.alloc _;refine ae n (fun _=>C.o _ (Below.mono x (by omega))) ?_;clear n K j;refine ah 17 (fun K n=>?_);refine step_append_lies _ rfl (.tmp 24) (.tmp 39) 23 rfl (w.heap.size+3) 79 b8 _ 3 48 underlying23 b9 c0 c3 c4 rfl (by decide) (.slice f m h) m r (by simp[Act.eval]) (ai I.o x) ⟨w2.heap.size,0,none⟩ 1 1 [.string d.name,.int .i64 d.cost,.slice E d.steps.length F] (by simp[Act.eval]) rfl (fun c6 u hu=>by rw[KZ];exact Xz w2 #[.string d.name,.int .i64 d.cost,.slice E d.steps.length F] 79 c6 u (by simpa using hu)) (lU d E F) (by omega) (by unfold maxLen;omega) (by omega) (by simp;omega) _ rfl ?_;intro g c7 w6 b3 W c8 e1;have b4:K_ w2 (w2.alloc (.cells #[.string d.name,.int .i64 d.cost,.slice E d.steps.length F] 79)):=ag _ _;have X:=ai I.o x;have Y:=Kz (CR.of v hz x H y.o a3.o X W);have c9:=Kz (CO x b4 J.o c5.o X W);have d0:=Kz b3;have b5:Below (w.heap.size+3) wr w6:=Y.o.below;have Z:=Y.o.out.row.at (i:=0) (by omega);have e2:=Z.2;obtain⟨vo,e3⟩:=Z.1;clear Z x b4 X b3 W c8;refine ae n (fun _=>C.o _ b5) ?_;clear n K;have j:=C.o _ b5;refine af 18 j ?_;refine ah 19 (fun K n=>?_);go_simp
    refine ae n (fun d1=>Lv rfl d1) ?_;clear n K;refine aB ?_;go_wp2
    go_roundw
    case rel=>
     have t:=Y.o;have ef:(l.take (k+1)).filter (bS b.toList)= (l.take k).filter (bS b.toList)++ [d]:=by rw[a9.o,Lt (by simp[bS,b0])]
     refine⟨k+1,m+1,_,c7,_,by omega,by go_num,t.kept.setCell (by simp <;> omega) _,by rw[size_setCell];exact t.size, ?_,t.res.block (Below.heap_setCell _ _ _ _ (by simp)),t.out.set _,bG t.out.row (by omega) _,by rw[ef,KS,<-L.o];rfl,aU d0.o (by simp) _, ?_⟩
     ·rw[Kn _ _ _ _ (by simp)];exact t.arg
     ·rw[ef];exact c9.o.same (t.out.same _) (by decide) (by decide) (by decide)
    case measure=>simp[intOf];omega
   ·go_wp2
    go_roundw
    case rel=>
     have e:(l.take (k+1)).filter (bS b.toList)= (l.take k).filter (bS b.toList):=by rw[a9.o,Lu (by simp[bS,b0])];simp
     exact⟨k+1,m,f,h,r,by omega,by go_num,v,hz,H,y.o,a3.o,N,by rw[e];exact L.o,I.o,by rw[e];exact J.o⟩
    case measure=>simp[intOf];omega
  ·have d2:k=l.length:=by omega
   subst d2;rw[KI] at J L;obtain⟨⟨_,x0⟩,g0⟩:=y.o.row.at (i:=0) (by omega);go_wp2
   have hR:=JU wr (w.heap.size+1) 0 [.slice f m h] (y.o.row.there (o:=0) (m:=1) (JP _));have G:=aU I.o (p:=⟨w.heap.size+1,0,none⟩) (by simp) (.slice f m h);have d3:=J.o.same (y.o.same (o:=0) (.slice f m h)) (by decide) (by decide) (by decide);have d4:=L.o;subst d4;exact X_ [.slice f _ h] _ results95 rfl hR underlying25 rfl Tryz.lq rfl ⟨f,h,r,w.heap.size+3,rfl,by omega,G,d3,v.setCell (by simp) _⟩
theorem wu(h:bn l 0):fE l:=by
 have a:¬gZ l:=by
  rcases h with⟨_,e⟩|⟨_,_,e⟩|⟨_,_,_,e⟩|⟨_,_,_,_,e⟩|⟨_,_,b,_,_⟩
  ·omega
  ·omega
  ·omega
  ·omega
  ·exact b
 refine Bf fun i c=>?_
 cases d:Op.bytesLess (nameAt l i) (nameAt l (i+1))
 ·exact Lv ⟨i,c,d⟩ a
 ·rfl
variable {p : Nat}
theorem BL(b:fE l){j:Nat}(d:p<l.length)(f:j<l.length)(e:nameAt l j=nameAt l p):j=p:=by
 by_cases h:j=p
 ·exact h
 ·rcases Nat.lt_or_gt_of_ne h with a|a
  ·have:=b j p a d;rw[e,dG] at this;cases this
  ·have:=b p j a f;rw[e,dG] at this;cases this
variable {key : List UInt8}
theorem Ct(k:fE l)(a:p<l.length)(e:nameAt l p=key):l.filter (bS key)=GD l p:=by
 have h:∀j (b:j<l.length),j≠p->bS key l[j]=true:=fun j b m=>by
  have c:nameAt l j=l[j].name.toList:=by unfold nameAt;simp[List.getD,b]
  simp only[bS,Bool.not_eq_true',beq_eq_false_iff_ne];intro n;exact m (BL k a b (by rw[c,n,e]))
 have q:bS key l[p]=false:=by
  have c:nameAt l p=l[p].name.toList:=by unfold nameAt;simp[List.getD,a]
  simp[bS,<-c,e]
 have r:l=l.take p++ (l[p] :: l.drop (p+1)):=by
  rw[<-List.drop_eq_getElem_cons a,Lj]
 have s:(l.take p).filter (bS key)=l.take p:=List.filter_eq_self.2 fun t d=>by
  obtain⟨i,f,rfl⟩:=Kb d;rw[Kt] at f;rw[KM];exact h i (by omega) (by omega)
 have v:(l.drop (p+1)).filter (bS key)=l.drop (p+1):=List.filter_eq_self.2 fun t d=>by
  obtain⟨i,f,rfl⟩:=Kb d;rw[List.length_drop] at f;rw[List.getElem_drop];exact h _ (by omega) (by omega)
 unfold GD
 conv=>lhs;rw[r]
 rw[List.filter_append,List.filter_cons_of_neg (by rw[q];simp),s,v]
def jo(key:List UInt8)(d:Qq):Bool:=Op.bytesLess d.name.toList key
def jK(key:List UInt8)(d:Qq):Bool:=Op.bytesLess key d.name.toList
def kL(l:List Qq)(d:Qq):List Qq:=l.filter (jo d.name.toList)++d :: l.filter (jK d.name.toList)
theorem vP{x y:List UInt8}(h:Op.bytesLess x y=true):Op.bytesLess y x=false:=by
 cases b:Op.bytesLess y x
 ·rfl
 ·have:=dX _ _ _ h b;rw[dG] at this;cases this
theorem gN{j:Nat}(h:j<l.length):nameAt l j=l[j].name.toList:=by unfold nameAt;simp[List.getD,h]
theorem Place.less(h:Place l key p):l.filter (jo key)=l.take p:=by
 have c:(l.take p).filter (jo key)=l.take p:=List.filter_eq_self.2 fun d a=>by
  obtain⟨i,b,rfl⟩:=Kb a;rw[Kt] at b;rw[KM];have:=h.before i (by omega);rw[gN (by omega)] at this;exact this
 have e:(l.drop p).filter (jo key)=[]:=List.filter_eq_nil_iff.2 fun d a=>by
  obtain⟨i,b,rfl⟩:=Kb a;rw[List.length_drop] at b;rw[List.getElem_drop];have:=h.behind (p+i) (by omega) (by omega);rw[gN (by omega)] at this;simp[jo,this]
 conv=>lhs;rw[<-Lj p l]
 rw[List.filter_append,c,e,List.append_nil]
theorem Place.ahead(h:Place l key p):(l.take p).filter (jK key)=[]:=List.filter_eq_nil_iff.2 fun e b=>by
 obtain⟨i,d,rfl⟩:=Kb b;rw[Kt] at d;rw[KM];have:=h.before i (by omega);rw[gN (by omega)] at this;simp[jK,vP this]
theorem Place.more(_:fE l)(h:Place l key p)(c:∀j,j<l.length->nameAt l j≠key):l.filter (jK key)=l.drop p:=by
 have d:(l.drop p).filter (jK key)=l.drop p:=List.filter_eq_self.2 fun k e=>by
  obtain⟨i,f,rfl⟩:=Kb e;rw[List.length_drop] at f;rw[List.getElem_drop];have a:=h.behind (p+i) (by omega) (by omega);have b:=c (p+i) (by omega);rw[gN (by omega)] at a b;exact pR _ _ a b
 conv=>lhs;rw[<-Lj p l]
 rw[List.filter_append,h.ahead,d,List.nil_append]
theorem Place.Ir(c:fE l)(h:Place l key p)(b:p<l.length)(e:nameAt l p=key):l.filter (jK key)=l.drop (p+1):=by
 have f:(l.drop (p+1)).filter (jK key)=l.drop (p+1):=List.filter_eq_self.2 fun d j=>by
  obtain⟨i,k,rfl⟩:=Kb j;rw[List.length_drop] at k;rw[List.getElem_drop];have a:=c p (p+1+i) (by omega) (by omega);rw[e,gN (by omega)] at a;exact a
 have a:l.drop p=l[p] :: l.drop (p+1):=List.drop_eq_getElem_cons b;have m:jK key l[p]=false:=by
  rw[gN b] at e;simp[jK,e,dG]
 conv=>lhs;rw[<-Lj p l]
 rw[List.filter_append,h.ahead,a,List.filter_cons_of_neg (by rw[m];simp),f,List.nil_append]
theorem Gd(a:List UInt8)(q:fE l):∃p,Place l a p:=by
 have:∀n,n<=l.length->∃p,p<=n/\(∀j,j<p->Op.bytesLess (nameAt l j) a=true)/\∀j,p<=j->j<n->Op.bytesLess (nameAt l j) a=false:=by
  intro n
  induction n with
  | zero=>exact fun _=>⟨0,JP _,fun j c=>aT c,fun j _ c=>aT c⟩
  | succ n ih=>
   intro s;obtain⟨p,t,f,k⟩:=ih (by omega);by_cases h:p=n
   ·subst h;cases d:Op.bytesLess (nameAt l p) a
    ·refine⟨p,by omega,f,fun j b e=>?_⟩;obtain rfl:j=p:=by omega
     exact d
    ·refine⟨p+1,JP _,fun j c=>?_,fun j b e=>by omega⟩;by_cases h:j=p
     ·rw[h];exact d
     ·exact f j (by omega)
   ·refine⟨p,by omega,f,fun j b e=>?_⟩;by_cases r:j=n
    ·subst r;cases d:Op.bytesLess (nameAt l j) a
     ·rfl
     ·have i:=q p j (by omega) (by omega);have m:=k p (JP _) (by omega);rw[dX _ _ _ i d] at m;cases m
    ·exact k j b (by omega)
 obtain⟨p,b,e,i⟩:=this l.length (JP _);exact⟨p,b,e,i⟩
theorem mq(a:List UInt8)(b:fE l):l.filter (bS a)=l.filter (jo a)++l.filter (jK a):=by
 obtain⟨p,c⟩:=Gd a b;by_cases h:p<l.length/\nameAt l p=a
 ·rw[Ct b h.1 h.2,c.less,c.Ir b h.1 h.2]
  rfl
 ·have f:∀j,j<l.length->nameAt l j≠a:=fun j i e=>by
   have:=c.only b i e;subst this;exact h ⟨i,e⟩
  rw[c.less,c.more b f,Lj];refine List.filter_eq_self.2 fun d m=>?_
  obtain⟨n,k,rfl⟩:=Kb m;have:=f n k;rw[gN k] at this;simpa[bS] using this
def n_(l:List Qq)(d:Qq):Nat:=(l.filter (jo d.name.toList)).length
theorem qj(a:fE l):(kL l d).length= (l.filter (bS d.name.toList)).length+1:=by
 rw[mq _ a];simp[kL];omega
theorem En(a:fE l):n_ l d<=(l.filter (bS d.name.toList)).length:=by
 rw[mq _ a];simp[n_]
theorem FJ(l:List Qq)(d:Qq):(kL l d).getD (n_ l d) Qq.zero=d:=by simp[kL,n_,List.getD]
theorem Eh{x:Qq}(h:x∈kL l d):x=d\/x∈l:=by
 simp only[kL,JZ,Lb,List.mem_filter] at h;rcases h with h|h|h
 ·exact .inr h.1
 ·exact .inl h
 ·exact .inr h.1
theorem DN(h:m<l.length):l.take (m+1)=l.take m++ [l.getD m Qq.zero]:=by
 rw[JX h];simp[List.getD,h]
def zQ(l:List Qq)(d:Qq)(c:Int)(r:List Qq):Prop:=
 (¬bn l 0/\c=1/\r=[])\/(bn l 0/\(¬iM d.name\/¬fU ⟨d.cost,d.steps⟩)/\c=2/\r=[])\/(bn l 0/\iM d.name/\fU ⟨d.cost,d.steps⟩/\60<(kL l d).length/\c=3/\r=[])\/
 (bn l 0/\iM d.name/\fU ⟨d.cost,d.steps⟩/\(kL l d).length<=60/\c=0/\r=kL l d)
theorem zQ.mem{r:List Qq}{c:Int}(h:zQ l d c r){x:Qq}(a:x∈r):x=d\/x∈l:=by
 rcases h with⟨_,_,rfl⟩|⟨_,_,_,rfl⟩|⟨_,_,_,_,_,rfl⟩|⟨_,_,_,_,_,rfl⟩
 ·cases a
 ·cases a
 ·cases a
 ·exact Eh a
theorem zQ.len{r:List Qq}{c:Int}(h:zQ l d c r):r.length<=60:=by
 rcases h with⟨_,_,rfl⟩|⟨_,_,_,rfl⟩|⟨_,_,_,_,_,rfl⟩|⟨h,_,_,b,_,rfl⟩
 ·simp
 ·simp
 ·simp
 ·exact b
variable {t : TypeId}
theorem Ep{a:LP}{x y z:LQ}(K:K_ (w.alloc (.cells #[x,y,z] t)) a):a.cell? ⟨w.heap.size,0,none⟩=some x/\a.cell? ⟨w.heap.size,1,none⟩=some y/\a.cell? ⟨w.heap.size,2,none⟩=some z:=by
 refine⟨?_, ?_, ?_⟩
 ·rw[K.cell (by simp)];simp
 ·rw[K.cell (by simp)];simp
 ·rw[K.cell (by simp)];simp
variable {w' : LP}
theorem K_.un{X:LP}(k:K_ X.drew w'):K_ X w':=K_.trans (aL _) k
theorem zL{X:LP}{c:Array LQ}(k:K_ (X.alloc (.cells c t)) w'):aC w' X.heap.size t c.size:=(aC.made X c t).kept k
theorem zW{X:LP}{c:Array LQ}(k:K_ (X.alloc (.cells c t)).drew w'):aC w' X.heap.size t c.size:=zL k.un
def kU(l:List Qq)(d:Qq)(w w':LP)(e:Ending):Prop:=
 ∃a cap c r xs base,e= .returned (.tuple #[.agg #[.slice a r.length cap],.int .i64 c])/\zQ l d c r/\w.heap.size<=base/\w'.ownsRow base 79 3 (.slice a r.length cap) r.length xs/\cB w' xs r/\K_ w w'
theorem kU.none{e:Ending}(c:Int)(a:e= .returned (.tuple #[.agg #[.slice none 0 0],.int .i64 c]))(h:zQ l d c [])(k:K_ w w'):kU l d w w' e:=⟨Option.none,0,c,[],[],_,a,h,JP _,Ld _ _ _ _,cB.nil _,k⟩
theorem ay.qQ{b:Nat}(h:Xk b (b+1) w w')(d:aC w b t n):ay t w w':=by
 intro x i u j f a;rw[h.block x (aO a) ?_]
 ·exact a
 ·obtain⟨k,c,_⟩:=d;by_cases e:x=b
  ·subst e;rw[a] at c;simp only[KT,Obj.cells.injEq] at c;exact Lv c.2.1 f
  ·omega
theorem Cw(f:fE l)(k:Nat)(e:k<(l.filter (bS d.name.toList)).length):
  (k<n_ l d->Op.bytesLess ((l.filter (bS d.name.toList)).getD k Qq.zero).name.toList d.name.toList=true/\(kL l d).getD k Qq.zero= (l.filter (bS d.name.toList)).getD k Qq.zero)/\
  (n_ l d<=k->(Op.bytesLess ((l.filter (bS d.name.toList)).getD k Qq.zero).name.toList d.name.toList=false/\(((l.filter (bS d.name.toList)).getD k Qq.zero).name.toList == d.name.toList)=false)/\(kL l d).getD (k+1) Qq.zero= (l.filter (bS d.name.toList)).getD k Qq.zero):=by
 rw[mq _ f] at e⊢;unfold kL n_;rw[KS] at e;constructor
 ·intro h;have a:(l.filter (jo d.name.toList)++l.filter (jK d.name.toList)).getD k Qq.zero= (l.filter (jo d.name.toList))[k]:=by simp[List.getD,Lh h,h]
  rw[a];refine⟨?_,by simp[List.getD,Lh h,h]⟩;have:=J_ h;exact (List.mem_filter.1 this).2
 ·intro h;have b:k-(l.filter (jo d.name.toList)).length<(l.filter (jK d.name.toList)).length:=by omega
  have a:(l.filter (jo d.name.toList)++l.filter (jK d.name.toList)).getD k Qq.zero= (l.filter (jK d.name.toList))[k-(l.filter (jo d.name.toList)).length]:=by simp[List.getD,Li h,b]
  rw[a];have c:Op.bytesLess d.name.toList (l.filter (jK d.name.toList))[k-(l.filter (jo d.name.toList)).length].name.toList=true:=(List.mem_filter.1 (J_ b)).2;refine⟨⟨vP c, ?_⟩, ?_⟩
  ·rw[beq_eq_false_iff_ne];intro i;rw[i,dG] at c;cases c
  have j:k+1-(l.filter (jo d.name.toList)).length= (k-(l.filter (jo d.name.toList)).length)+1:=by omega
  simp[List.getD,Li (show (l.filter (jo d.name.toList)).length<=k+1 by omega),j,b]
def Ib(l:List Qq)(d:Qq):List Qq:=l.filter (bS d.name.toList)
theorem cB.at{base:Nat}{h:LM}{q:Nat}(d:w.ownsRow base 79 3 (.slice h n q) n xs)(i:cB w xs l){k:Nat}(r:k<l.length):
  ∃g f fr a c,h=some ⟨g,0,none⟩/\w.heap[g]? =some (Obj.cells f 79 fr)/\w.cell? ⟨g,k*3,none⟩=some (.string (l.getD k Qq.zero).name)/\w.cell? ⟨g,k*3+1,none⟩=some (.int .i64 (l.getD k Qq.zero).cost)/\
   w.cell? ⟨g,k*3+2,none⟩=some (.slice a (l.getD k Qq.zero).steps.length c)/\b_ w (.slice a (l.getD k Qq.zero).steps.length c) (l.getD k Qq.zero).steps:=by
 have v:n=l.length:=by have x:=d.1;have y:=i.1;omega
 rcases d.2 with⟨_,A⟩|⟨g,B,f,e,C,s,D,_,_,_⟩
 ·omega
 ·simp only[KX] at e;obtain⟨rfl,_,rfl⟩:=e;obtain⟨E,e,m⟩:=i.2 k r;obtain⟨a,c,rfl⟩:=m.slice;have b:∀j u,((xs.drop (k*3)).take 3)[j]? =some u->j<3->w.cell? ⟨g,k*3+j,none⟩=some u:=fun j u p t=>by
   rw[List.getElem?_take,Lt t,List.getElem?_drop] at p;have:=d.cells (g:=g) rfl _ _ p;rw[KZ,KH] at this;exact this
  rw[e] at b;exact⟨g,f,_,a,c,rfl,s,b 0 _ rfl (by decide),b 1 _ rfl (by decide),b 2 _ rfl (by decide),m⟩
structure iA (wc wr:LP) (outb:Nat) (T:List Qq) (m:Nat) (av:LM) (cv:Nat) (xs:List LQ):Prop where
 kb:Xk outb (outb+1) wc wr
 row:aC wr outb 25 1
 cell:wr.cell? ⟨outb,0,none⟩=some (.slice av m cv)
 own:wr.ownsRow wc.heap.size 79 3 (.slice av m cv) m xs
 pack:cB wc xs (T.take m)
variable {T : List Qq} {outb : Nat} {wc : LP}
theorem iA.grown{W:LP}(h:iA wc wr outb T m av cv xs)(a:K_ wr W)(c:W.grownBy w6 (Value.slice av m cv).ownBlock):Below wc.heap.size wr w6:=
 have e:=h.kb.size;have f:=a.size
 (Below.mono a (by omega)).trans (Below.grown (Below.refl _ _) c (by omega) (fun g d=>((ai h.own a).lt g d).1))
theorem iA.next{W:LP}{a:Nat}{b:LM}{x:Qq}{c:LM}{d:Nat}(h:iA wc wr outb T m av cv xs)(e:outb<wc.heap.size)(j:K_ wr W)(k:W.grownBy w6 (Value.slice av m cv).ownBlock)
 (l:w6.ownsRow wc.heap.size 79 3 (.slice b (m+1) a) (m+1) (xs++ [.string x.name,.int .i64 x.cost,.slice c x.steps.length d])) (n:m<T.length) (p:T.getD m Qq.zero=x) (q:b_ wc (.slice c x.steps.length d) x.steps):
  iA wc (w6.setCell ⟨outb,0,none⟩ (.slice b (m+1) a)) outb T (m+1) b a (xs++ [.string x.name,.int .i64 x.cost,.slice c x.steps.length d]):=by
 have f:=h.grown j k;have i:aC w6 outb 25 1:=h.row.block (f.block outb e);refine⟨(h.kb.below f).setCell (JP _) (Ky _) _,i.set _,bG i.row (by omega) _,aU l e _, ?_⟩;rw[DN n,p];exact h.pack.snoc q
theorem iA.drewN(h:iA wc wr outb T m av cv xs)(n:Nat):iA wc (wr.drewN n) outb T m av cv xs:=
 ⟨⟨h.kb.os,h.kb.tape,h.kb.output,h.kb.size,h.kb.block⟩,h.row,h.cell,h.own,h.pack⟩
theorem iA.fin{b:LP}{a:Nat}(h:iA wc b outb T n av cv xs)(j:aC wc outb 25 1)(c:aC wc a 25 1)(x:a≠outb)(K:K_ w wc)(k:w.heap.size<=a)(h2:w.heap.size<=outb)
 (q:T.length=n) (e:T=kL l d) (c1:bn l 0) (r:iM d.name) (c3:fU ⟨d.cost,d.steps⟩) (s:n<=60):
  (b.setCell ⟨a,0,none⟩ (.slice av n cv)).rangeAt a 0 [.slice av n cv]/\kU l d w (b.setCell ⟨a,0,none⟩ (.slice av n cv)) (.returned (.tuple #[.agg #[.slice av n cv],.int .i64 0])):=by
 have f:aC b a 25 1:=c.block (h.kb.block a c.lt (by omega));have t:=aU h.own (p:=⟨a,0,none⟩) c.lt (.slice av n cv);have i:=h.pack;rw[KJ (by omega)] at i;have v:=(i.same (ay.qQ h.kb j) (by decide) (by decide) (by decide)).same (f.same (o:=0) (.slice av n cv)) (by decide) (by decide) (by decide);refine⟨JU b a 0 [.slice av n cv] (f.row.there (o:=0) (m:=1) (JP _)), ?_⟩;subst q;exact⟨av,cv,0,T,xs,wc.heap.size,rfl,.inr (.inr (.inr ⟨c1,r,c3,e ▸ s,rfl,e⟩)),K.size,t,v,(h.kb.kept K h2).setCell k _⟩
structure Jy (W6 Wl:LP) (d:Qq) (oneb:Nat) (a2:LM) (ca2:Nat):Prop where
 kept:K_ W6 Wl
 ge:W6.heap.size<=oneb
 lt:oneb<Wl.heap.size
 name:Wl.cell? ⟨oneb,0,none⟩=some (.string d.name)
 cost:Wl.cell? ⟨oneb,1,none⟩=some (.int .i64 d.cost)
 steps:Wl.cell? ⟨oneb,2,none⟩=some (.slice a2 d.steps.length ca2)
 one:b_ Wl (.slice a2 d.steps.length ca2) d.steps
def JJ(W6:LP)(d:Qq)(s8:LQ)(Wl:LP):Prop:=∃oneb a2 ca2,s8= .pointer (some ⟨oneb,0,none⟩)/\Jy W6 Wl d oneb a2 ca2
theorem Gr(w:LP)(a0:LM)(c0:Nat)(l:List Qq)(d:Qq)(aA:LM)(ca:Nat)(d2:mN<=1000)(hl:l.length<=1000)(hs:∀d∈l,d.TinyN mN)(e8:d.TinyN mN)(hS:rG w a0 l)(hN:bN w a0 l)(hA:jN w aA d.steps)(j1:Steps w aA d.steps):
  Calls prog 92 #[.agg #[.slice a0 l.length c0],.agg #[.string d.name,.int .i64 d.cost,.slice aA d.steps.length ca]] w fun e w'=>kU l d w w' e:=by
 have j2:l.length<=maxLen:=by unfold maxLen;omega
 have hf:∀e9∈l,e9.Fits:=fun e9 j3=>(hs e9 j3).fits d2
 have f0:=e8.fits d2;go_enter func92,ntmps92
 go_wp2_with fail
 refine (fu _ a0 c0 l j2 hf (hN.kept (by repeat (first | apply K_.alloc | exact K_.refl _)))).mono ?_;rintro e w1 ⟨⟨c,rfl,hc⟩,k1⟩;have K1:K_ w w1:=K_.trans (by repeat (first | apply K_.alloc | exact K_.refl _)) k1;have z1:=k1.size;simp only[KR] at z1;have q0:=yG (w:=w) (K_.trans ((ag _ _).alloc _) k1);have nn:=Ep (w:=w.alloc (.cells #[.slice a0 l.length c0] 25)) (K_.trans (ag _ _) k1);simp only[KR] at nn;obtain⟨n0,n1,n2⟩:=nn;have f1:aC w1 (w.heap.size+2) 25 1:=aC.kept (by have:=aC.made ((w.alloc (.cells #[.slice a0 l.length c0] 25)).alloc (.cells #[.string d.name,.int .i64 d.cost,.slice aA d.steps.length ca] 79)) #[.slice none 0 0] 25;simpa using this) k1;obtain⟨⟨_,x0⟩,j4⟩:=f1.row.at (i:=0) (by omega);have⟨d3,HC⟩:=aH f1 hc;clear f1 hc k1;by_cases f2:c=0
 ·subst f2;have j5:w.heap.size<w1.heap.size:=by omega
  have f3:w.heap.size+1<w1.heap.size:=by omega
  have l7:w.heap.size+2<w1.heap.size:=by omega
  go_wp2_with fail
  refine (mr _ d.name f0.name).mono ?_;rintro e w2 ⟨a9,rfl⟩;rcases a9.cases with⟨rfl,c1⟩|⟨rfl,c2⟩
  ·have HY:=Kz c1;clear c1 a9;go_wp2_with fail
   refine (eZ _ d.cost aA ca d.steps f0.steps f0.each (j1.kept K1)).mono ?_;rintro e w3 ⟨a9,k3⟩;have q3:=(k3.cell (o:=0) j5).trans q0;have p0:=(k3.cell (o:=0) f3).trans n0;have p1:=(k3.cell (o:=1) f3).trans n1;have p2:=(k3.cell (o:=2) f3).trans n2;have d4:=Kz (d3.o.kept k3);have K3:=K1.trans k3;have z3:=k3.size;obtain⟨⟨_,y0⟩,j6⟩:=d4.o.row.at (i:=0) (by omega);clear q0 n0 n1 n2 x0 j4 d3 K1 k3;rcases a9.cases with⟨rfl,c1⟩|⟨rfl,c2⟩
   ·have HM:=Kz c1;clear c1 a9;have j7:w.heap.size<w3.heap.size:=by omega
    have f4:w.heap.size+1<w3.heap.size:=by omega
    have l8:w.heap.size+2<w3.heap.size:=by omega
    have d5:=Kz (wu HC.o);go_wp2_with fail
    refine (qE _ a0 c0 l d.name d2 hl hs (hS.kept K3)).mono ?_;rintro e a ⟨b0,D,l9,m0,rfl,m1,f5,f6,k4⟩;obtain⟨old,d6⟩:=aj (Ib l d);rw[show l.filter (bS d.name.toList)=old from d6.symm] at f5 f6⊢;have m2:old.length<=l.length:=by rw[d6];exact List.length_filter_le _ _
    have⟨h1,h3,h4⟩:=dK d6 f5 f6;have K4:=K3.trans k4;have q4:=(k4.cell (o:=0) j7).trans q3;have r0:=(k4.cell (o:=0) f4).trans p0;have r1:=(k4.cell (o:=1) f4).trans p1;have r2:=(k4.cell (o:=2) f4).trans p2;have d7:=Kz (d4.o.kept k4);have z4:=k4.size;obtain⟨⟨_,v0⟩,u0⟩:=d7.o.row.at (i:=0) (by omega);clear d6 f5 f6 q3 p0 p1 p2 y0 j6 d4 K3 k4;have m3:w.heap.size<a.heap.size:=by omega
    have d8:w.heap.size+1<a.heap.size:=by omega
    have m4:w.heap.size+2<a.heap.size:=by omega
    by_cases m5:60<=old.length
    ·have j8:(60:Int)<=(old.length:Int):=by omega
     go_wp2
     have j9:=JU a (w.heap.size+2) 0 [.slice none 0 0] (d7.o.row.there (o:=0) (m:=1) (JP _));have k0:((a.setCell ⟨w.heap.size+2,0,none⟩ (.slice none 0 0)).alloc (.cells #[.slice b0 old.length D] 25)).rangeAt (w.heap.size+2) 0 [.slice none 0 0]:=K_.range (ag _ _) (by rw[size_setCell];omega) j9;refine dE [.slice none 0 0] _ (.int .i64 3) results92 rfl k0 underlying25 rfl Tryz.lq rfl rfl (kU.none 3 rfl (.inr (.inr (.inl ⟨HC.o,HY.o,HM.o, ?_,rfl,rfl⟩))) ?_)
     ·rw[qj d5.out,show l.filter (bS d.name.toList)=old from h1.o.symm];omega
     ·exact (K4.setCell (by simp <;> omega) _).alloc _
    ·have j8:¬(60:Int)<=(old.length:Int):=by omega
     have r:Hid (∀w',K_ ((a.alloc (.cells #[.slice b0 old.length D] 25)).alloc (.cells #[.slice none 0 0] 25)) w'->(fun w'=>w'.cell? ⟨w.heap.size+1,0,none⟩=some (.string d.name)/\w'.cell? ⟨w.heap.size+1,1,none⟩=some (.int .i64 d.cost)/\w'.cell? ⟨w.heap.size+1,2,none⟩=some (.slice aA d.steps.length ca)) w'):=fun w' kk=>by
      have k5:K_ a w':=K_.trans ((ag _ _).alloc _) kk;exact⟨(k5.cell d8).trans r0,(k5.cell d8).trans r1,(k5.cell d8).trans r2⟩
     have KA:K_ w ((a.alloc (.cells #[.slice b0 old.length D] 25)).alloc (.cells #[.slice none 0 0] 25)):=(K4.alloc _).alloc _;go_upto_region 9 with fail
     go_cut [8] from 36 to 41 (fun s8 wx=>JJ ((a.alloc (.cells #[.slice b0 old.length D] 25)).alloc (.cells #[.slice none 0 0] 25)) d s8 wx)
     case first=>
      go_region_held (fun w'=>w'.cell? ⟨w.heap.size+1,0,none⟩=some (.string d.name)/\w'.cell? ⟨w.heap.size+1,1,none⟩=some (.int .i64 d.cost)/\w'.cell? ⟨w.heap.size+1,2,none⟩=some (.slice aA d.steps.length ca)) (exact a_ r _ (by repeat (first | (refine K_.setCell ?_ (by simp <;> omega) _) | (with_reducible exact K_.refl _) | (with_reducible assumption) | apply K_.drew | apply K_.alloc))) ((go_at_call 124;refine (x_ _ d.cost aA ca d.steps d2 e8.steps e8.each (hA.kept (KA.trans (by repeat (first | (with_reducible exact K_.refl _) | (with_reducible assumption) | apply K_.drew | apply K_.alloc))))).mono ?_;rintro e w7 ⟨s,v,rfl,h5,h6⟩;have k7:K_ ((a.alloc (.cells #[.slice b0 old.length D] 25)).alloc (.cells #[.slice none 0 0] 25)) w7:=K_.trans (by repeat (first | (with_reducible exact K_.refl _) | (with_reducible assumption) | apply K_.drew | apply K_.alloc)) h6;have h7:=Kz h5;clear h5;(first | (have b8:=zW (t:=79) (c:= #[.string ⟨#[]⟩,.int .i64 0,.slice none 0 0]) h6;simp only[KR] at b8;have c3:=Kz b8;obtain⟨⟨_,t0⟩,V⟩:=b8.row.at (i:=0) (by decide);obtain⟨⟨_,t1⟩,W⟩:=b8.row.at (i:=1) (by decide);obtain⟨⟨_,t2⟩,m6⟩:=b8.row.at (i:=2) (by decide);clear b8) | skip)))
      ·go_wp2
       go_meet
       refine⟨w7.heap.size,s,v,rfl,k7.alloc _,k7.size,by simp,by simp,by simp,by simp, ?_⟩;exact h7.o.same (u:=79) (.aF (ag _ _)) (by decide) (by decide) (by decide)
      ·go_wp2
       go_meet
       have y:=JU w7 (a.heap.size+1+1) 0 [.string d.name,.int .i64 d.cost,.slice s d.steps.length v] (c3.o.row.there (o:=0) (m:=3) (JP _));refine⟨a.heap.size+1+1,s,v,rfl,((k7.setCell (by simp) _).setCell (by simp) _).setCell (by simp) _,by simp,by simp only[size_setCell];exact c3.o.lt,y 0 _ rfl,y 1 _ rfl,y 2 _ rfl, ?_⟩;exact h7.o.same (((c3.o.same _).trans ((c3.o.set _).same _)).trans (((c3.o.set _).set _).same _)) (by decide) (by decide) (by decide)
     case rest=>
      obtain⟨k2,s,v,rfl,a2⟩:=hcut;have c4:K_ a wc:=K_.trans ((ag _ _).alloc _) a2.kept;have zc:=a2.kept.size;have zo:=a2.ge;simp only[KR] at zc zo;have co:=yG (w:=a) (K_.trans (ag _ _) a2.kept);have cu:=yG (w:=a.alloc (.cells #[.slice b0 old.length D] 25)) a2.kept;simp only[KR] at cu;have cn:=(c4.cell (o:=0) d8).trans r0;have f7:=zL (X:=a.alloc (.cells #[.slice b0 old.length D] 25)) a2.kept;simp only[KR] at f7;have b1:Hid (aC wc (a.heap.size+1) 25 1):=f7;have d9:=Kz (d7.o.kept c4);have k6:=Kz (ai h3.o c4);have k8:=Kz (h4.o.same (ay.aF (t:=79) c4) (by decide) (by decide) (by decide));have G:=Kz a2;obtain⟨a3,hT⟩:=aj (kL l d);obtain⟨Y,e0⟩:=aj (n_ l d);have e1:l.filter (bS d.name.toList)=old:=h1.o.symm;have b2:Hid (a3.length=old.length+1):=by rw[hT,<-e1];exact qj d5.out
      have m7:Y<=old.length:=by rw[e0,<-e1];exact En d5.out
      have h8:Hid (a3.getD Y Qq.zero=d):=by rw[hT,e0];exact FJ l d
      have k9:Hid (∀k,k<old.length->(k<Y->Op.bytesLess (old.getD k Qq.zero).name.toList d.name.toList=true/\a3.getD k Qq.zero=old.getD k Qq.zero)/\(Y<=k->(Op.bytesLess (old.getD k Qq.zero).name.toList d.name.toList=false/\((old.getD k Qq.zero).name.toList == d.name.toList)=false)/\a3.getD (k+1) Qq.zero=old.getD k Qq.zero)):=by
       rw[hT,e0,<-e1];exact fun k hk=>Cw d5.out k hk
      have HT:=Kz hT;clear hT e0 e1 a2 f7 h3 h4 d7 v0 u0 q4 r KA;have K5:=K4.trans c4;go_wp2
      go_loopw [9,10] (fun dn f8 wr=>∃(k e2:Nat) (J:LM) (L:Nat) (P:List LQ),k<=old.length/\f8= .int .i64 k/\((dn= .bool true/\Y<k/\e2=k+1)\/(dn= .bool false/\k<=Y/\e2=k))/\iA wc wr (a.heap.size+1) a3 e2 J L P) (fun _ f8 _=>old.length-(intOf f8).toNat)
      case atStart=>exact⟨0,0,none,0,[],JR _,rfl,.inr ⟨rfl,JR _,rfl⟩,Xk.refl _ _ _,b1.o,cu,Ld _ _ _ _,cB.nil _⟩
      case round=>
       obtain⟨k,e2,J,L,P,hk,rfl,h9,a4⟩:=hrel;have l0:=Kz (ay.qQ a4.kb b1.o);have zr:=a4.kb.size;have f9:=a4.kb.same (l2:=0) (h2:=a.heap.size+1) (by omega);have e4:=a4.kb.same (l2:=a.heap.size+1+1) (h2:=wc.heap.size) (by omega);have eo:=(f9.cell (o:=0) (JR _) (by omega:a.heap.size<a.heap.size+1) (by omega)).trans co;have en:=(f9.cell (o:=0) (JR _) (by omega:w.heap.size+1<a.heap.size+1) (by omega)).trans cn;have g0:=(e4.cell (o:=0) zo G.o.lt G.o.lt).trans G.o.name;have g1:=(e4.cell (o:=1) zo G.o.lt G.o.lt).trans G.o.cost;have e3:=(e4.cell (o:=2) zo G.o.lt G.o.lt).trans G.o.steps;have ol:=G.o.lt;have eu:=a4.cell;obtain⟨⟨_,l1⟩,g2⟩:=a4.row.row.at (i:=0) (by omega);have E:=Kz a4;clear a4 f9 e4 l1;have g3:a.heap.size+1<wr.heap.size:=by omega
       have g4:a.heap.size<wr.heap.size:=by omega
       have m8:k2<wr.heap.size:=by omega
       have m9:w.heap.size+1<wr.heap.size:=by omega
       by_cases i0:k<old.length
       ·obtain⟨g,e5,fr,i,j,rfl,n,F,H,I,g5⟩:=cB.at k6.o k8.o i0;have g6:=l0.out g e5 _ fr (by decide) n;have n3:=aO g6;have HG:=Kz (k9.o k i0);obtain⟨x,hx⟩:=aj (old.getD k Qq.zero);rw[<-hx] at F H I g5 HG;have Z:=Kz (And.intro F (And.intro H I));have D0:Hid (wr.cell? ⟨g,k*3,none⟩=some (.string x.name)):=by show _=_;rw[Ke (g6.trans n.symm)];exact F
        have g7:=D0.out;have n4:(k:Int)<(old.length:Int):=by omega
        have g8:=Kz g5;clear hx g5 F H I g6;rcases h9 with⟨rfl,g9,hm⟩|⟨rfl,g9,h0⟩
        ·subst hm;have c5:=Kz (HG.o.2 (by omega)).2;go_wp2
         go_quiet (fail)
         obtain⟨b,M⟩:=aj (wr.drewN nq);rw[<-M];have m:iA wc b (a.heap.size+1) a3 (k+1) J L P:=by rw[M];exact E.o.drewN nq
         clear M eo en g0 g1 e3 eu g2 g7;have a5:=ay.qQ m.kb b1.o;have A:=a5 g e5 _ fr (by decide) n;have a6:=m.kb.same (l2:=0) (h2:=a.heap.size+1) (by omega);have V:=(a6.cell (o:=0) (JR _) (by omega:a.heap.size<a.heap.size+1) (by omega)).trans co;have F:b.cell? ⟨g,k*3,none⟩=some (.string x.name):=by rw[Ke (A.trans n.symm)];exact Z.out.1
         have H:b.cell? ⟨g,k*3+1,none⟩=some (.int .i64 x.cost):=by rw[Ke (A.trans n.symm)];exact Z.out.2.1
         have I:b.cell? ⟨g,k*3+2,none⟩=some (.slice i x.steps.length j):=by rw[Ke (A.trans n.symm)];exact Z.out.2.2
         have W:=m.cell;have zq:=m.kb.size;have B:=Kz m;have gl:=aO n;have g3:a.heap.size+1<b.heap.size:=by omega
         have g4:a.heap.size<b.heap.size:=by omega
         have i1:g<b.heap.size:=by omega
         have r:Hid (∀w',Below wc.heap.size b w'->(fun w'=>w'.cell? ⟨a.heap.size+1,0,none⟩=some (.slice J (k+1) L)/\w'.cell? ⟨a.heap.size,0,none⟩=some (.slice (some ⟨g,0,none⟩) old.length D)/\w'.cell? ⟨g,k*3,none⟩=some (.string x.name)/\w'.cell? ⟨g,k*3+1,none⟩=some (.int .i64 x.cost)/\w'.cell? ⟨g,k*3+2,none⟩=some (.slice i x.steps.length j)) w'):=fun w' q=>⟨(Below.cell q (p:=⟨a.heap.size+1,0,none⟩) (by simp <;> omega)).trans W,(Below.cell q (p:=⟨a.heap.size,0,none⟩) (by simp <;> omega)).trans V,(Below.cell q (p:=⟨g,k*3,none⟩) (by simp <;> omega)).trans F,(Below.cell q (p:=⟨g,k*3+1,none⟩) (by simp <;> omega)).trans H,(Below.cell q (p:=⟨g,k*3+2,none⟩) (by simp <;> omega)).trans I⟩
         clear m a5 A a6;obtain⟨Q,R,S,T,U⟩:=info_parts Tryz.lY;go_wp2
         refine Qx.region (by kernel_rfl) (fun w'=>w'.cell? ⟨a.heap.size+1,0,none⟩=some (.slice J (k+1) L)/\w'.cell? ⟨a.heap.size,0,none⟩=some (.slice (some ⟨g,0,none⟩) old.length D)/\w'.cell? ⟨g,k*3,none⟩=some (.string x.name)/\w'.cell? ⟨g,k*3+1,none⟩=some (.int .i64 x.cost)/\w'.cell? ⟨g,k*3+2,none⟩=some (.slice i x.steps.length j)) 10 ⟨W,V,F,H,I⟩ (fun h=>?_);refine au 0 h ?_;refine af 4 h ?_;refine af 5 h ?_;refine af 6 h ?_;refine ah 7 (fun K f=>?_);go_simp
         have C:K_ b (b.alloc (.cells #[.string x.name,.int .i64 x.cost,.slice i x.steps.length j] 79)).drew:=(ag _ _).drew;refine ae f (fun _=>r.o _ (Below.mono C (by omega))) ?_;clear f K h;refine ah 8 (fun K f=>?_);refine step_append_lies _ rfl (.tmp 69) (.tmp 75) 23 rfl wc.heap.size 79 Q _ 3 48 underlying23 R S T U rfl (by decide) (.slice J (k+1) L) (k+1) P (by simp[Act.eval]) (ai B.o.own C) ⟨b.heap.size,0,none⟩ 1 1 [.string x.name,.int .i64 x.cost,.slice i x.steps.length j] (by simp[Act.eval]) rfl (fun a1 u hu=>by rw[KZ];exact Xz b #[.string x.name,.int .i64 x.cost,.slice i x.steps.length j] 79 a1 u (by simpa using hu)) (lU x i j) (by omega) (by unfold maxLen;omega) (by omega) (by simp;omega) _ rfl ?_;intro i2 c6 w8 a7 N c7 i3;have O:=B.o.grown C N;have a8:aC w8 (a.heap.size+1) 25 1:=B.o.row.block (O.block _ (by omega));obtain⟨⟨_,i4⟩,i5⟩:=a8.row.at (i:=0) (by omega);have⟨c8,c9⟩:=aH a7 N;clear a7 N c7 a8;refine ae f (fun _=>r.o _ O) ?_;clear f K;have h:=r.o _ O;refine af 9 h ?_;refine ah 10 (fun K f=>?_);go_simp
         refine ae f (fun b3=>Lv rfl b3) ?_;clear f K;refine aB ?_;go_wp2
         go_roundw
         case rel=>exact⟨k+1,k+1+1,_,c6,_,by omega,by go_num,.inl ⟨rfl,by omega,by omega⟩,iA.next B.o (by omega) C c9.o c8.o (by have:=b2.o;omega) c5.o g8.o⟩
         case measure=>simp[intOf];omega
        ·have hm:=h0.symm;subst hm;by_cases i6:k<Y
         ·have l3:=(HG.o.1 i6).1;have c5:=Kz (HG.o.1 i6).2;go_wp2
          go_quiet (fail)
          obtain⟨b,M⟩:=aj (wr.drewN nq);rw[<-M];have m:iA wc b (a.heap.size+1) a3 (k) J L P:=by rw[M];exact E.o.drewN nq
          clear M eo en g0 g1 e3 eu g2 g7;have a5:=ay.qQ m.kb b1.o;have A:=a5 g e5 _ fr (by decide) n;have a6:=m.kb.same (l2:=0) (h2:=a.heap.size+1) (by omega);have V:=(a6.cell (o:=0) (JR _) (by omega:a.heap.size<a.heap.size+1) (by omega)).trans co;have F:b.cell? ⟨g,k*3,none⟩=some (.string x.name):=by rw[Ke (A.trans n.symm)];exact Z.out.1
          have H:b.cell? ⟨g,k*3+1,none⟩=some (.int .i64 x.cost):=by rw[Ke (A.trans n.symm)];exact Z.out.2.1
          have I:b.cell? ⟨g,k*3+2,none⟩=some (.slice i x.steps.length j):=by rw[Ke (A.trans n.symm)];exact Z.out.2.2
          have W:=m.cell;have zq:=m.kb.size;have B:=Kz m;have gl:=aO n;have g3:a.heap.size+1<b.heap.size:=by omega
          have g4:a.heap.size<b.heap.size:=by omega
          have i1:g<b.heap.size:=by omega
          have r:Hid (∀w',Below wc.heap.size b w'->(fun w'=>w'.cell? ⟨a.heap.size+1,0,none⟩=some (.slice J (k) L)/\w'.cell? ⟨a.heap.size,0,none⟩=some (.slice (some ⟨g,0,none⟩) old.length D)/\w'.cell? ⟨g,k*3,none⟩=some (.string x.name)/\w'.cell? ⟨g,k*3+1,none⟩=some (.int .i64 x.cost)/\w'.cell? ⟨g,k*3+2,none⟩=some (.slice i x.steps.length j)) w'):=fun w' q=>⟨(Below.cell q (p:=⟨a.heap.size+1,0,none⟩) (by simp <;> omega)).trans W,(Below.cell q (p:=⟨a.heap.size,0,none⟩) (by simp <;> omega)).trans V,(Below.cell q (p:=⟨g,k*3,none⟩) (by simp <;> omega)).trans F,(Below.cell q (p:=⟨g,k*3+1,none⟩) (by simp <;> omega)).trans H,(Below.cell q (p:=⟨g,k*3+2,none⟩) (by simp <;> omega)).trans I⟩
          clear m a5 A a6;obtain⟨Q,R,S,T,U⟩:=info_parts Tryz.lY;go_wp2
          refine Qx.region (by kernel_rfl) (fun w'=>w'.cell? ⟨a.heap.size+1,0,none⟩=some (.slice J (k) L)/\w'.cell? ⟨a.heap.size,0,none⟩=some (.slice (some ⟨g,0,none⟩) old.length D)/\w'.cell? ⟨g,k*3,none⟩=some (.string x.name)/\w'.cell? ⟨g,k*3+1,none⟩=some (.int .i64 x.cost)/\w'.cell? ⟨g,k*3+2,none⟩=some (.slice i x.steps.length j)) 10 ⟨W,V,F,H,I⟩ (fun h=>?_);refine au 0 h ?_;refine af 4 h ?_;refine af 5 h ?_;refine af 6 h ?_;refine ah 7 (fun K f=>?_);go_simp
          have C:K_ b (b.alloc (.cells #[.string x.name,.int .i64 x.cost,.slice i x.steps.length j] 79)).drew:=(ag _ _).drew;refine ae f (fun _=>r.o _ (Below.mono C (by omega))) ?_;clear f K h;refine ah 8 (fun K f=>?_);refine step_append_lies _ rfl (.tmp 69) (.tmp 75) 23 rfl wc.heap.size 79 Q _ 3 48 underlying23 R S T U rfl (by decide) (.slice J (k) L) (k) P (by simp[Act.eval]) (ai B.o.own C) ⟨b.heap.size,0,none⟩ 1 1 [.string x.name,.int .i64 x.cost,.slice i x.steps.length j] (by simp[Act.eval]) rfl (fun a1 u hu=>by rw[KZ];exact Xz b #[.string x.name,.int .i64 x.cost,.slice i x.steps.length j] 79 a1 u (by simpa using hu)) (lU x i j) (by omega) (by unfold maxLen;omega) (by omega) (by simp;omega) _ rfl ?_;intro i2 c6 w8 a7 N c7 i3;have O:=B.o.grown C N;have a8:aC w8 (a.heap.size+1) 25 1:=B.o.row.block (O.block _ (by omega));obtain⟨⟨_,i4⟩,i5⟩:=a8.row.at (i:=0) (by omega);have⟨c8,c9⟩:=aH a7 N;clear a7 N c7 a8;refine ae f (fun _=>r.o _ O) ?_;clear f K;have h:=r.o _ O;refine af 9 h ?_;refine ah 10 (fun K f=>?_);go_simp
          refine ae f (fun b3=>Lv rfl b3) ?_;clear f K;refine aB ?_;go_wp2
          go_roundw
          case rel=>exact⟨k+1,k+1,_,c6,_,by omega,by go_num,.inr ⟨rfl,by omega,by omega⟩,iA.next B.o (by omega) C c9.o c8.o (by have:=b2.o;omega) c5.o g8.o⟩
          case measure=>simp[intOf];omega
         ·obtain⟨l3,n5⟩:=(HG.o.2 (by omega)).1;have c5:=Kz (HG.o.2 (by omega)).2;go_wp2
          go_quiet (fail)
          obtain⟨Q,R,S,T,U⟩:=info_parts Tryz.lY;go_wp2_with (at_builtin;refine wpList_append_own _ rfl (.tmp 63) (.tmp 65) 23 rfl wc.heap.size 79 Q _ 3 48 underlying23 R S T U rfl (by decide) _ k P rfl (ai E.o.own (by repeat (first | (with_reducible exact K_.refl _) | apply K_.alloc | apply K_.drewN | apply K_.drew))) ⟨wr.heap.size,0,none⟩ 1 1 [.string d.name,.int .i64 d.cost,.slice s d.steps.length v] rfl rfl (fun a1 u hu=>(by rw[KZ];exact Xz wr #[.string d.name,.int .i64 d.cost,.slice s d.steps.length v] 79 a1 u (by simpa using hu))) (lU d s v) (by unfold maxLen;omega) (by omega) (by simp;omega) ?_;intro v6 w6 b4 b5 _;obtain⟨b6,b7,rfl⟩:=ax b4;have b9:K_ wr ((wr.drewN nq).alloc (.cells #[.string d.name,.int .i64 d.cost,.slice s d.steps.length v] 79)):=((K_.refl _).drewN nq).alloc _;have d0:=E.o.grown b9 b5;have d1:aC w6 (a.heap.size+1) 25 1:=E.o.row.block (d0.block _ (by omega));obtain⟨⟨_,i7⟩,i8⟩:=d1.row.at (i:=0) (by omega);have e6:=Kz (iA.next E.o (by omega) b9 b5 b4 (by have:=b2.o;omega) (by have:=h8.o;rw[show k=Y by omega];exact this) G.o.one);clear b4 b5 d1)
          obtain⟨b,M⟩:=aj (w6.setCell ⟨a.heap.size+1,0,none⟩ (.slice b6 (k+1) b7));rw[<-M];have m:iA wc b (a.heap.size+1) a3 (k+1) b6 b7 (P++ [.string d.name,.int .i64 d.cost,.slice s d.steps.length v]):=by rw[M];exact e6.o
          clear M eo en g0 g1 e3 eu g2 g7 i8 i7 d0 b9 e6;clear Q R S T U;have a5:=ay.qQ m.kb b1.o;have A:=a5 g e5 _ fr (by decide) n;have a6:=m.kb.same (l2:=0) (h2:=a.heap.size+1) (by omega);have V:=(a6.cell (o:=0) (JR _) (by omega:a.heap.size<a.heap.size+1) (by omega)).trans co;have F:b.cell? ⟨g,k*3,none⟩=some (.string x.name):=by rw[Ke (A.trans n.symm)];exact Z.out.1
          have H:b.cell? ⟨g,k*3+1,none⟩=some (.int .i64 x.cost):=by rw[Ke (A.trans n.symm)];exact Z.out.2.1
          have I:b.cell? ⟨g,k*3+2,none⟩=some (.slice i x.steps.length j):=by rw[Ke (A.trans n.symm)];exact Z.out.2.2
          have W:=m.cell;have zq:=m.kb.size;have B:=Kz m;have gl:=aO n;have g3:a.heap.size+1<b.heap.size:=by omega
          have g4:a.heap.size<b.heap.size:=by omega
          have i1:g<b.heap.size:=by omega
          have r:Hid (∀w',Below wc.heap.size b w'->(fun w'=>w'.cell? ⟨a.heap.size+1,0,none⟩=some (.slice b6 (k+1) b7)/\w'.cell? ⟨a.heap.size,0,none⟩=some (.slice (some ⟨g,0,none⟩) old.length D)/\w'.cell? ⟨g,k*3,none⟩=some (.string x.name)/\w'.cell? ⟨g,k*3+1,none⟩=some (.int .i64 x.cost)/\w'.cell? ⟨g,k*3+2,none⟩=some (.slice i x.steps.length j)) w'):=fun w' q=>⟨(Below.cell q (p:=⟨a.heap.size+1,0,none⟩) (by simp <;> omega)).trans W,(Below.cell q (p:=⟨a.heap.size,0,none⟩) (by simp <;> omega)).trans V,(Below.cell q (p:=⟨g,k*3,none⟩) (by simp <;> omega)).trans F,(Below.cell q (p:=⟨g,k*3+1,none⟩) (by simp <;> omega)).trans H,(Below.cell q (p:=⟨g,k*3+2,none⟩) (by simp <;> omega)).trans I⟩
          clear m a5 A a6;obtain⟨Q,R,S,T,U⟩:=info_parts Tryz.lY;go_wp2
          refine Qx.region (by kernel_rfl) (fun w'=>w'.cell? ⟨a.heap.size+1,0,none⟩=some (.slice b6 (k+1) b7)/\w'.cell? ⟨a.heap.size,0,none⟩=some (.slice (some ⟨g,0,none⟩) old.length D)/\w'.cell? ⟨g,k*3,none⟩=some (.string x.name)/\w'.cell? ⟨g,k*3+1,none⟩=some (.int .i64 x.cost)/\w'.cell? ⟨g,k*3+2,none⟩=some (.slice i x.steps.length j)) 10 ⟨W,V,F,H,I⟩ (fun h=>?_);refine au 0 h ?_;refine af 4 h ?_;refine af 5 h ?_;refine af 6 h ?_;refine ah 7 (fun K f=>?_);go_simp
          have C:K_ b (b.alloc (.cells #[.string x.name,.int .i64 x.cost,.slice i x.steps.length j] 79)).drew:=(ag _ _).drew;refine ae f (fun _=>r.o _ (Below.mono C (by omega))) ?_;clear f K h;refine ah 8 (fun K f=>?_);refine step_append_lies _ rfl (.tmp 69) (.tmp 75) 23 rfl wc.heap.size 79 Q _ 3 48 underlying23 R S T U rfl (by decide) (.slice b6 (k+1) b7) (k+1) (P++ [.string d.name,.int .i64 d.cost,.slice s d.steps.length v]) (by simp[Act.eval]) (ai B.o.own C) ⟨b.heap.size,0,none⟩ 1 1 [.string x.name,.int .i64 x.cost,.slice i x.steps.length j] (by simp[Act.eval]) rfl (fun a1 u hu=>by rw[KZ];exact Xz b #[.string x.name,.int .i64 x.cost,.slice i x.steps.length j] 79 a1 u (by simpa using hu)) (lU x i j) (by omega) (by unfold maxLen;omega) (by omega) (by simp;omega) _ rfl ?_;intro i2 c6 w8 a7 N c7 i3;have O:=B.o.grown C N;have a8:aC w8 (a.heap.size+1) 25 1:=B.o.row.block (O.block _ (by omega));obtain⟨⟨_,i4⟩,i5⟩:=a8.row.at (i:=0) (by omega);have⟨c8,c9⟩:=aH a7 N;clear a7 N c7 a8;refine ae f (fun _=>r.o _ O) ?_;clear f K;have h:=r.o _ O;refine af 9 h ?_;refine ah 10 (fun K f=>?_);go_simp
          refine ae f (fun b3=>Lv rfl b3) ?_;clear f K;refine aB ?_;go_wp2
          go_roundw
          case rel=>exact⟨k+1,k+1+1,_,c6,_,by omega,by go_num,.inl ⟨rfl,by omega,by omega⟩,iA.next B.o (by omega) C c9.o c8.o (by have:=b2.o;omega) c5.o g8.o⟩
          case measure=>simp[intOf];omega
       ·have l4:k=old.length:=by omega
        subst l4;rcases h9 with⟨rfl,g9,hm⟩|⟨rfl,g9,h0⟩
        ·subst hm;obtain⟨y,e7⟩:=E.o.fin b1.o d9.o (by omega) K5 (by omega) (by omega) b2.o HT.o HC.o HY.o HM.o (by omega);have i9:=d9.o.block (E.o.kb.block _ (by omega) (by omega));obtain⟨⟨_,t0⟩,t1⟩:=i9.row.at (i:=0) (by omega);have⟨l5,l6⟩:=aH y e7;clear i9 y e7;go_wp2
         exact dE [.slice J (old.length+1) L] _ (.int .i64 0) results92 rfl l5.o underlying25 rfl Tryz.lq rfl rfl l6.o
        ·have hm:=h0.symm;subst hm;obtain⟨Q,R,S,T,U⟩:=info_parts Tryz.lY;have n6:w.heap.size+2<wr.heap.size:=by omega
         go_wp2_with (at_builtin;refine wpList_append_own _ rfl (.tmp 81) (.tmp 83) 23 rfl wc.heap.size 79 Q _ 3 48 underlying23 R S T U rfl (by decide) _ old.length P rfl (ai E.o.own (by repeat (first | (with_reducible exact K_.refl _) | apply K_.alloc | apply K_.drewN | apply K_.drew))) ⟨wr.heap.size,0,none⟩ 1 1 [.string d.name,.int .i64 d.cost,.slice s d.steps.length v] rfl rfl (fun a1 u hu=>(by rw[KZ];exact Xz wr #[.string d.name,.int .i64 d.cost,.slice s d.steps.length v] 79 a1 u (by simpa using hu))) (lU d s v) (by unfold maxLen;omega) (by omega) (by simp;omega) ?_;intro v6 w6 b4 b5 _;obtain⟨b6,b7,rfl⟩:=ax b4;have b9:K_ wr (wr.alloc (.cells #[.string d.name,.int .i64 d.cost,.slice s d.steps.length v] 79)):=ag _ _;have d0:=E.o.grown b9 b5;have d1:aC w6 (a.heap.size+1) 25 1:=E.o.row.block (d0.block _ (by omega));obtain⟨⟨_,i7⟩,i8⟩:=d1.row.at (i:=0) (by omega);have j0:aC w6 (w.heap.size+2) 25 1:=(d9.o.block (E.o.kb.block _ (by omega) (by omega))).block (d0.block _ (by omega));obtain⟨⟨_,n7⟩,n8⟩:=j0.row.at (i:=0) (by omega);have e6:=Kz (iA.next E.o (by omega) b9 b5 b4 (by have:=b2.o;omega) (by have:=h8.o;rw[show old.length=Y by omega];exact this) G.o.one);clear b4 b5 d1 j0)
         obtain⟨y,e7⟩:=e6.o.fin b1.o d9.o (by omega) K5 (by omega) (by omega) b2.o HT.o HC.o HY.o HM.o (by omega);exact dE [.slice b6 (old.length+1) b7] _ (.int .i64 0) results92 rfl y underlying25 rfl Tryz.lq rfl rfl e7
   ·have HM:=Kz c2;clear c2 a9;go_wp2
    have y:=JU w3 (w.heap.size+2) 0 [.slice none 0 0] (d4.o.row.there (o:=0) (m:=1) (JP _));refine dE [.slice none 0 0] _ (.int .i64 2) results92 rfl y underlying25 rfl Tryz.lq rfl rfl (kU.none 2 rfl (.inr (.inl ⟨HC.o,.inr HM.o,rfl,rfl⟩)) ?_)
    repeat (first | (refine K_.setCell ?_ (by simp <;> omega) _) | exact K3)
  ·have HY:=Kz c2;clear c2 a9;go_wp2
   have y:=JU w2 (w.heap.size+2) 0 [.slice none 0 0] (d3.o.row.there (o:=0) (m:=1) (JP _));refine dE [.slice none 0 0] _ (.int .i64 2) results92 rfl y underlying25 rfl Tryz.lq rfl rfl (kU.none 2 rfl (.inr (.inl ⟨HC.o,.inl HY.o,rfl,rfl⟩)) ?_)
   repeat (first | (refine K_.setCell ?_ (by simp <;> omega) _) | exact K1)
 ·have n9:(c == 0)=false:=by simpa using f2
  go_wp2
  have y:=JU w1 (w.heap.size+2) 0 [.slice none 0 0] (d3.o.row.there (o:=0) (m:=1) (JP _));refine dE [.slice none 0 0] _ (.int .i64 1) results92 rfl y underlying25 rfl Tryz.lq rfl rfl (kU.none 1 rfl (.inl ⟨fun b3=>f2 (HC.o.unique b3),rfl,rfl⟩) ?_)
  repeat (first | (refine K_.setCell ?_ (by simp <;> omega) _) | exact K1)
variable {a : LM}
theorem bB.at(h:bB w (.slice a n cap) l){k:Nat}(f:k<l.length):
  ∃B oB b c,a=some ⟨B,oB,none⟩/\B<w.heap.size/\w.rangeAt B (oB+k*3) ((l.getD k Qq.zero).cells b c)/\jN w b (l.getD k Qq.zero).steps/\Steps w b (l.getD k Qq.zero).steps:=by
 obtain⟨r,s,e,t,v,g⟩:=h;simp only[KX] at e;obtain⟨rfl,rfl,rfl⟩:=e;obtain⟨i,o,x,y,u,j,m,p,d⟩:=g k f;obtain⟨b,c,rfl,_,q⟩:=d.Da;exact⟨i,o,b,c,j,aO m,p,q,d.steps⟩
def xR(mN:Nat)(w w':LP)(e:Ending):Prop:=
 ∃(v:LQ) (r:List Qq),e= .returned (.agg #[v])/\r.length<=60/\(∀d∈r,d.TinyN mN)/\bB w' v r/\K_ w w'/\lN w.heap.size v r
def Hy(mN:Nat)(wr:LP)(s5 s6:LQ)(wx:LP):Prop:=
 ∃(xb:Nat) (v:LQ) (c:Int) (r:List Qq),s5= .pointer (some ⟨xb,0,none⟩)/\s6= .int .i64 c/\K_ wr wx/\xb<wx.heap.size/\wx.cell? ⟨xb,0,none⟩=some v/\bB wx v r/\r.length<=60/\(∀d∈r,d.TinyN mN)/\lN wr.heap.size v r
theorem zQ.tiny{r:List Qq}{c:Int}(h:zQ l d c r)(e:∀d∈l,d.TinyN mN)(f:d.TinyN mN):∀x∈r,x.TinyN mN:=fun x a=>by
 rcases h.mem a with rfl|a
 ·exact f
 ·exact e x a
theorem sZ(w:LP)(c:LM)(b:Nat)(l:List Qq)(c3:mN<=1000)(hl:l.length<=1000)(hs:∀d∈l,d.TinyN mN)(hG:bB w (.slice c l.length b) l):
  Calls prog 52 #[.agg #[.slice c l.length b]] w fun e w'=>xR mN w w' e:=by
 go_enter func52,ntmps52
 go_wp2
 have Z:K_ w (((w.alloc (.cells #[.slice c l.length b] 25)).alloc (.cells #[.slice none 0 0] 25)).alloc (.cells #[.slice none 0 0] 25)):=((ag _ _).alloc _).alloc _;go_loopw [4] (fun I wr=>∃(k:Nat) (C:LQ) (r:List Qq),k<=l.length/\I= .int .i64 k/\K_ w wr/\wr.cell? ⟨w.heap.size,0,none⟩=some (.slice c l.length b)/\aC wr (w.heap.size+1) 25 1/\aC wr (w.heap.size+2) 25 1/\
   wr.cell? ⟨w.heap.size+2,0,none⟩=some C/\bB wr C r/\r.length<=60/\(∀d∈r,d.TinyN mN)/\lN w.heap.size C r) (fun I _=>l.length-(intOf I).toNat)
 case atStart=>
  have hO:=Xz ((w.alloc (.cells #[.slice c l.length b] 25)).alloc (.cells #[.slice none 0 0] 25)) #[.slice none 0 0] 25;simp only[KR] at hO;refine⟨0,.slice none 0 0,[],JR _,rfl,Z, ?_, ?_, ?_,hO 0 _ rfl,bB.nil _,by simp,(fun d hd=>by simp at hd),(fun h0=>by simp at h0)⟩
  ·rw[K_.cell (w:=w.alloc (.cells #[.slice c l.length b] 25)) ((ag _ _).alloc _) (by simp)];exact Xz w _ _ 0 _ rfl
  ·exact aC.kept (by have:=aC.made (w.alloc (.cells #[.slice c l.length b] 25)) #[.slice none 0 0] 25;simpa using this) (ag _ _)
  ·have:=aC.made ((w.alloc (.cells #[.slice c l.length b] 25)).alloc (.cells #[.slice none 0 0] 25)) #[.slice none 0 0] 25;simpa using this
 case round=>
  clear Z;obtain⟨k,C,r,hk,rfl,f,J,a0,K,M,a1,a2,a3,a4⟩:=hrel;obtain⟨h,rfl⟩:=aj wr;have N:=K.lt;have⟨n,a5,j,v⟩:=lg a0 K a1 a3;clear a0 K a1 a3;by_cases a6:k<l.length
  ·have c4:(k:Int)<(l.length:Int):=by omega
   obtain⟨B,i,O,P,c5,a7,a8,Q,R⟩:=hG.at a6;subst c5;obtain⟨p,q,rfl,d8,d9⟩:=j.o.slice;have x:=f.range a7 a8;have S:B<h.heap.size:=JQ a7 f.size;have D:=hs (l.getD k Qq.zero) (by simp[List.getD,a6]);obtain⟨d,a9⟩:=aj (l.getD k Qq.zero);rw[<-a9] at x Q R D;have T:=x 0 _ rfl;have c1:=x 1 _ rfl;have c2:=x 2 _ rfl;rw[La] at T;have c6:=Kz (Q.kept f);have c8:=Kz (R.kept f);clear x a9 a8 Q R;have b0:Hid (∀w',K_ h w'->(fun w'=>w'.cell? ⟨w.heap.size+2,0,none⟩=some (.slice p r.length q)/\w'.cell? ⟨w.heap.size,0,none⟩=some (.slice (some ⟨B,i,none⟩) l.length b)/\w'.cell? ⟨B,i+k*3,none⟩=some (.string d.name)/\w'.cell? ⟨B,i+k*3+1,none⟩=some (.int .i64 d.cost)/\w'.cell? ⟨B,i+k*3+2,none⟩=some (.slice O d.steps.length P)) w'):=fun w' y=>⟨(y.cell N).trans M,(y.cell (by omega)).trans J,(y.cell S).trans T,(y.cell S).trans c1,(y.cell S).trans c2⟩
   go_upto_region 5 with fail
   go_cut [5,6] from 15 to 24 (fun s5 s6 wx=>Hy mN h s5 s6 wx)
   case first=>
    go_region_held (fun w'=>w'.cell? ⟨w.heap.size+2,0,none⟩=some (.slice p r.length q)/\w'.cell? ⟨w.heap.size,0,none⟩=some (.slice (some ⟨B,i,none⟩) l.length b)/\w'.cell? ⟨B,i+k*3,none⟩=some (.string d.name)/\w'.cell? ⟨B,i+k*3+1,none⟩=some (.int .i64 d.cost)/\w'.cell? ⟨B,i+k*3+2,none⟩=some (.slice O d.steps.length P)) (exact a_ b0 _ (by repeat (first | (refine K_.setCell ?_ (by simp <;> omega) _) | (with_reducible exact K_.refl _) | (with_reducible assumption) | apply K_.drew | apply K_.alloc))) ((go_at_call 92;refine (Gr _ p q r d O P c3 (by omega) v.o D (j.o.GR.kept (by repeat (first | (with_reducible exact K_.refl _) | (with_reducible assumption) | apply K_.drew | apply K_.alloc))) (j.o.nodes.kept (by repeat (first | (with_reducible exact K_.refl _) | (with_reducible assumption) | apply K_.drew | apply K_.alloc))) (c6.o.kept (by repeat (first | (with_reducible exact K_.refl _) | (with_reducible assumption) | apply K_.drew | apply K_.alloc))) (c8.o.kept (by repeat (first | (with_reducible exact K_.refl _) | (with_reducible assumption) | apply K_.drew | apply K_.alloc)))).mono ?_;rintro e U ⟨c9,d0,s,E,e1,d1,rfl,b1,b2,V,b3,b4⟩;have a:K_ h U:=K_.trans (by repeat (first | (with_reducible exact K_.refl _) | (with_reducible assumption) | apply K_.drew | apply K_.alloc)) b4;have b5:=Kz (bB.fM V b3);have b6:h.heap.size<=d1:=JS (K_.size (by repeat (first | (with_reducible exact K_.refl _) | (with_reducible assumption) | apply K_.drew | apply K_.alloc))) b2;have b7:=Kz ((lN.fM (L:=E) V).mono b6);have F:=Kz b1;clear b1 V b3 b2 b6;(first | (have G:=zW (t:=25) (c:= #[.slice none 0 0]) b4;(try simp only[KR] at G);have W:=Kz G;obtain⟨⟨_,t0⟩,f0⟩:=G.row.at (i:=0) (by decide);clear G) | skip)))
    ·go_wp2
     go_meet
     exact⟨_,_,s,E,rfl,rfl,a.alloc _,by simp,by simp,b5.o.kept (ag _ _),F.o.len,F.o.tiny v.o D,b7.o⟩
    ·go_wp2
     go_meet
     have X:=JU U h.heap.size 0 [.slice c9 E.length d0] (W.o.row.there (o:=0) (m:=1) (JP _));exact⟨_,_,s,E,rfl,rfl,a.setCell (by simp) _,by rw[size_setCell];exact W.o.lt,X 0 _ rfl,b5.o.same (W.o.same (o:=0) _) (by decide) (by decide) (by decide) (by decide),F.o.len,F.o.tiny v.o D,b7.o⟩
   case rest=>
    obtain⟨xb,v7,s,r7,rfl,rfl,a,zx,x0,Y,d2,b8,d3⟩:=hcut;obtain⟨U,rfl⟩:=aj wc;have z7:=JQ N a.size;have o7:=(a.cell (o:=0) N).trans M;have p7:=(a.cell (o:=0) (by omega:w.heap.size<h.heap.size)).trans J;obtain⟨e2,c7,rfl,_,_⟩:=Y.slice;have⟨d4,d5⟩:=aH Y b8;have b9:=Kz (n.o.kept a);have A:=Kz (a5.o.kept a);have d6:=Kz (j.o.kept a);have c0:=f.trans a;have d7:=f.size;obtain⟨⟨_,u0⟩,g0⟩:=A.o.row.at (i:=0) (by omega);clear Y b8 b0 T c1 c2 M J n a5 j a f;by_cases H:s=0
    ·have e0:(s == 0)=true:=by simp[H]
     clear H;go_wp2
     go_roundw
     case rel=>
      refine⟨k+1,_,r7,by omega,by go_num,c0.setCell (by simp <;> omega) _, ?_,b9.o.block (Below.heap_setCell _ _ _ _ (by simp)),A.o.set _,bG A.o.row (by omega) _,d4.o.same (A.o.same (o:=0) _) (by decide) (by decide) (by decide) (by decide),d2,d5.o,d3.mono d7⟩;rw[Kn _ _ _ _ (by simp)];exact p7
     case measure=>simp[intOf];omega
    ·have e0:(s == 0)=false:=by simpa using H
     clear H;go_wp2
     go_roundw
     case rel=>exact⟨k+1,_,r,by omega,by go_num,c0,p7,b9.o,A.o,o7,d6.o,a2,v.o,a4⟩
     case measure=>simp[intOf];omega
  ·have c4:¬(k:Int)<(l.length:Int):=by omega
   obtain⟨⟨_,x0⟩,g0⟩:=n.o.row.at (i:=0) (by omega);have z1:=n.o.lt;obtain⟨p,q,rfl,_,_⟩:=j.o.slice;go_wp2
   have X:=JU h (w.heap.size+1) 0 [.slice p r.length q] (n.o.row.there (o:=0) (m:=1) (JP _));exact X_ [.slice p r.length q] _ results52 rfl X underlying25 rfl Tryz.lq rfl ⟨_,r,rfl,a2,v.o,j.o.same (n.o.same (o:=0) _) (by decide) (by decide) (by decide) (by decide),f.setCell (by simp) _,a4⟩
variable {bs : List UInt8} {rb : Nat}
theorem fD.sorted{M:Nat}{l j:LP}{B:Nat}{i t:Nat}{v:LQ}{L:List Qq}{e:Ending}(h:fD M l j rb B a cap bs i v L xs)(C:xR M j w6 e){c:Nat}(D:aC j c 25 1)(E:w.heap.size<=c)(b:K_ w l){F:Nat}(G:Rd w rb a cap bs F)
 (H:p<=i) (h2:i<=p+t):∃d vn f,e= .returned (.agg #[.slice d vn f])/\aC w6 c 25 1/\kY M 60 w (w6.setCell ⟨c,0,none⟩ (.slice d vn f)) rb a cap bs p t e:=by
 obtain⟨P,r,m,I,J,n,k,K⟩:=C;obtain⟨d,f,rfl,_,_⟩:=n.slice;have q:=D.kept k;have N:=q.same (o:=0) (.slice d r.length f);have s:Below w.heap.size w6 (w6.setCell ⟨c,0,none⟩ (.slice d r.length f)):=(Below.refl _ _).setCell (p:=⟨c,0,none⟩) E _;have x:Xk rb (rb+1) w w6:=Xk.eP ⟨h.kb.os.trans b.os,h.kb.tape.trans b.tape,h.kb.output.trans b.output,JS b.size h.kb.size,fun y A O=>(h.kb.block y (JQ A b.size) O).trans (b.block y A)⟩ k;exact⟨d,r.length,f,m,q,_,r,i,m,H,h2,I,J,n.same N (by decide) (by decide) (by decide) (by decide),(h.rd.kept k).below G s x.size,x.below s,K.mono (JS b.size h.kb.size)⟩
def bR(g:LK):Xj:=⟨[],0,[],0,0,true,false,g⟩
theorem iB{g:LK}(a:g.size<=300):(bR g).TinyN m:=⟨JR _,(fun x b=>by simp[bR] at b),by show (-1000:Int)<=0/\(0:Int)<=1000;decide,JR _,(fun e c=>by simp[bR] at c),by show (-9223372036854775808:Int)<=0/\(0:Int)<=9223372036854775807;decide,by show (-1000:Int)<=0/\(0:Int)<=1000;decide,a⟩
theorem rD(w:LP)(g:LK):kN w 9 177 ((bR g).cells none 0 none 0) (bR g):=⟨none,0,none,0,rfl,.inl rfl,.inl rfl,JP _⟩
theorem nS(g:LK):jU ((bR g).cells none 0 none 0):=jH (fun _=>⟨rfl,rfl⟩) (fun _=>⟨rfl,rfl⟩)
theorem Dp(w:LP)(c:Array LQ):∀j u,c.toList[j]? =some u->(w.alloc (.cells c 83)).cell? ((⟨w.heap.size,0,none⟩:Addr).add j)=some u:=fun j u a=>by
 rw[KZ];exact Xz w c 83 j u a
theorem ji.g{c:Nat}{cost:Int}{v:LQ}{L:List Xj}(h:ji mN w wr rb c a cap bs p cost v L xs):b_ wr v L:=(StW.fM h.own h.pack h.ng).g
structure jh (wO wr:LP) (rb sb:Nat) (a:LM) (cap:Nat) (bs:List UInt8) (p:Nat) (aa:LM) (ca:Nat) (s:Xj):Prop where
 rd:Rd wr rb a cap bs p
 kb:Xk rb (rb+1) wO wr
 sbl:wO.heap.size<=sb
 box:cZ wr sb (.slice aa s.asks.length ca) (.slice none 0 0) s
 asks:mQ wr aa s.asks
 room:s.asks.length<=ca
 nil:aa=none->s.asks.length=0/\ca=0
 cases:s.cases=[]
 tiny:s.TinyN 20
variable {sb : Nat} {aa : LM} {s : Xj} {wO : LP}
theorem jh.kept(h:jh wO wr rb sb a cap bs p aa ca s)(k:K_ wr w'):jh wO w' rb sb a cap bs p aa ca s:=
 ⟨h.rd.kept k,h.kb.eP k,h.sbl,h.box.kept k,h.asks.same (u:=25) (.aF k) (by decide),h.room,h.nil,h.cases,h.tiny⟩
theorem jh.drawn{c:Nat}(h:jh wO wr rb sb a cap bs p aa ca s)(e:rb<wO.heap.size)(d:Rd w' rb a cap bs c)(k:Xk rb (rb+1) wr w'):jh wO w' rb sb a cap bs c aa ca s:=by
 have f:=h.sbl;exact⟨d,h.kb.trans k,h.sbl,h.box.block (k.block sb h.box.row.lt (by omega)),h.asks.same (k.sameKind h.rd) (by decide),h.room,h.nil,h.cases,h.tiny⟩
theorem jh.steps(h:jh wO wr rb sb a cap bs p aa ca s):
  b_ (wr.alloc (.cells #[.slice aa s.asks.length ca,.int .i64 s.on,.slice none 0 0,.int .i64 s.els,.int .i64 s.fall,.bool s.fin,.bool s.bad,.string s.give,.slice none 0 0,.int .i64 0,.slice none 0 0,.int .i64 0,.int .i64 0,.bool true,.bool false,.string ⟨#[114]⟩] 83)) (.slice (some ⟨wr.heap.size,0,none⟩) 2 2) [s,bR ⟨#[114]⟩]:=by
 have k:K_ wr (wr.alloc (.cells #[.slice aa s.asks.length ca,.int .i64 s.on,.slice none 0 0,.int .i64 s.els,.int .i64 s.fall,.bool s.fin,.bool s.bad,.string s.give,.slice none 0 0,.int .i64 0,.slice none 0 0,.int .i64 0,.int .i64 0,.bool true,.bool false,.string ⟨#[114]⟩] 83)):=ag _ _;have d:=Xz wr #[.slice aa s.asks.length ca,.int .i64 s.on,.slice none 0 0,.int .i64 s.els,.int .i64 s.fall,.bool s.fin,.bool s.bad,.string s.give,.slice none 0 0,.int .i64 0,.slice none 0 0,.int .i64 0,.int .i64 0,.bool true,.bool false,.string ⟨#[114]⟩] 83;have e:s.cases.length=0:=by rw[h.cases];rfl
 refine⟨_,2,rfl,JP _,fun i f=>?_⟩
 match i,f with
 | 0,_=>
  refine⟨wr.heap.size,0,_,_,s.cells aa ca none 0,rfl,heap_alloc_new wr _,fun j u b=>?_,⟨aa,ca,none,0,rfl,h.asks.same (u:=25) (.aF k) (by decide),.inl h.cases,h.room⟩,jH h.nil (fun _=>⟨e,rfl⟩)⟩;have c:j<8:=by have:=(JW.1 b).1;simpa[Xj.cells] using this
  refine d j u ?_;rw[<-b];unfold Xj.cells;rw[e]
  match j,c with
  | 0,_ | 1,_ | 2,_ | 3,_ | 4,_ | 5,_ | 6,_ | 7,_=>rfl
 | 1,_=>
  refine⟨wr.heap.size,0,_,_,(bR ⟨#[114]⟩).cells none 0 none 0,rfl,heap_alloc_new wr _,fun j u b=>?_,(rD _ _).g,nS _⟩;have c:j<8:=by have:=(JW.1 b).1;simpa[Xj.cells] using this
  have:=d (8+j) u;rw[<-Nat.add_assoc] at this;refine this ?_;rw[<-b]
  match j,c with
  | 0,_ | 1,_ | 2,_ | 3,_ | 4,_ | 5,_ | 6,_ | 7,_=>rfl
theorem yx{α:Type}{p:α->Prop}{x y z:α}(h:x∈[y,z])(b:p y)(c:p z):p x:=by
 simp only[Lb,Lc,or_false] at h;rcases h with rfl|rfl
 ·exact b
 ·exact c
theorem cZ.ring(w:LP)(b:LQ)(l:List LK):cZ (w.alloc (.cells #[b,.int .i64 0,.slice none 0 0,.int .i64 1,.int .i64 (-1),.bool false,.bool false,.string ⟨#[]⟩] 83)) w.heap.size b (.slice none 0 0) ⟨l,0,[],1, -1,false,false,⟨#[]⟩⟩:=by
 have e:=Xz w #[b,.int .i64 0,.slice none 0 0,.int .i64 1,.int .i64 (-1),.bool false,.bool false,.string ⟨#[]⟩] 83;have a:∀j v,(#[b,.int .i64 0,.slice none 0 0,.int .i64 1,.int .i64 (-1),.bool false,.bool false,.string ⟨#[]⟩]:Array LQ).toList[j]? =some v->(w.alloc (.cells #[b,.int .i64 0,.slice none 0 0,.int .i64 1,.int .i64 (-1),.bool false,.bool false,.string ⟨#[]⟩] 83)).cell? ⟨w.heap.size,j,none⟩=some v:=fun j v f=>by
  have:=e j v f;rw[KH] at this;exact this
 exact⟨aC.made w _ _,a 0 _ rfl,a 1 _ rfl,a 2 _ rfl,a 3 _ rfl,a 4 _ rfl,a 5 _ rfl,a 6 _ rfl,a 7 _ rfl⟩
theorem EF{w2:LP}(b:Rd wO rb a cap bs p)(k:K_ wO w2){x:LK}(h:x.size<=300):
  SSt wO ((w2.alloc (.cells #[.string x] 9)).alloc (.cells #[.slice (some ⟨w2.heap.size,0,none⟩) 1 1,.int .i64 0,.slice none 0 0,.int .i64 1,.int .i64 (-1),.bool false,.bool false,.string ⟨#[]⟩] 83)) rb (w2.heap.size+1) a cap bs p (.slice (some ⟨w2.heap.size,0,none⟩) 1 1) (.slice none 0 0) ⟨[x],0,[],1, -1,false,false,⟨#[]⟩⟩:=by
 have i:K_ w2 (w2.alloc (.cells #[.string x] 9)):=ag _ _;have c:K_ (w2.alloc (.cells #[.string x] 9)) ((w2.alloc (.cells #[.string x] 9)).alloc (.cells #[.slice (some ⟨w2.heap.size,0,none⟩) 1 1,.int .i64 0,.slice none 0 0,.int .i64 1,.int .i64 (-1),.bool false,.bool false,.string ⟨#[]⟩] 83)):=ag _ _;have K:=(k.trans i).trans c;have m:=k.size;have e:=cZ.ring (w2.alloc (.cells #[.string x] 9)) (.slice (some ⟨w2.heap.size,0,none⟩) 1 1) [x];rw[KR] at e;have j:(w2.alloc (.cells #[.string x] 9)).ownsRow wO.heap.size 9 1 (.slice (some ⟨w2.heap.size,0,none⟩) 1 1) 1 [.string x]:=⟨rfl,.inr ⟨w2.heap.size,1,_,rfl,k.size,heap_alloc_new w2 _,JP _,by unfold maxLen;omega,rfl,rfl⟩⟩;exact⟨b.kept K,⟨p,b⟩,by omega,.aF K,e,ai j c,Ld _ _ _ _,⟨by show 1<=20;omega,(fun y f=>by simp at f;subst f;exact h),by show (-1000:Int)<=0/\(0:Int)<=1000;decide,JR _,(fun q l=>by simp at l),by show (-9223372036854775808:Int)<=1/\(1:Int)<=9223372036854775807;decide,by show (-1000:Int)<= -1/\(-1:Int)<=1000;decide,by show (0:Nat)<=300;omega⟩⟩
theorem fJ.ring(h:SSt wO wr rb sb a cap bs p (.slice aa n ca) (.slice none 0 0) s)(c:s.cases=[]):n=s.asks.length/\jh wO wr rb sb a cap bs p aa ca s:=by
 obtain⟨i,j,b,d,e⟩:=bg h.asks;simp only[KX] at b;obtain⟨rfl,rfl,rfl⟩:=b;exact⟨rfl,h.rd,h.kb,h.sbl,h.box,e.g,d,fun f=>by subst f;exact iy h.asks,c,h.tiny⟩
theorem fJ.tail{g c:Nat}(h:SSt wO wr rb sb a cap bs p (.slice (some ⟨g,0,none⟩) s.asks.length c) (.slice none 0 0) s)(r:s.cases=[])(f:1<=s.asks.length)(i:aa=some ⟨g,0,none⟩/\c=1\/aa=some ⟨g,1,none⟩)(F:m+1=s.asks.length):
  jh wO (wr.setCell ⟨sb,0,none⟩ (.slice aa m (c-1))) rb sb a cap bs p aa (c-1) {s with asks:=s.asks.drop 1}:=by
 obtain⟨G,H,j,I,d⟩:=bg h.asks;simp only[KX,true_and] at j;obtain⟨rfl,rfl⟩:=j;have k:Below wO.heap.size wr (wr.setCell ⟨sb,0,none⟩ (.slice aa m (c-1))):=(Below.refl _ _).setCell h.sbl _;obtain⟨J,t⟩:=h.rd0;have l:(s.asks.drop 1).length=m:=by rw[List.length_drop];omega
 have v:=h.box.asks (.slice aa m (c-1)) (s.asks.drop 1);rcases d with d|⟨b,K,L,n,w,x⟩
 ·rw[d] at f;simp at f
 simp only[KT,LG,and_true] at n;subst n;have y:mQ wr aa (s.asks.drop 1):=mQ.tail (b:=g) (o:=0) w (fun A B=>by rw[KH];exact x A B) (fun C=>by
  rcases i with⟨_,e⟩|e
  ·exact Lv (LB (by rw[l];omega)) C
  ·rw[KH];exact e)
 refine⟨h.rd.below t k h.kb.size,h.kb.below k,h.sbl,by show cZ _ sb (.slice aa (s.asks.drop 1).length (c-1)) _ _;rw[l];exact v,y.same (h.box.row.same _) (by decide),by show (s.asks.drop 1).length<=c-1;omega,fun e=>?_,r,⟨by show (s.asks.drop 1).length<=20;have:=h.tiny.asks;omega,fun D E=>h.tiny.dM D (List.mem_of_mem_drop E),h.tiny.on,h.tiny.cases,h.tiny.dh,h.tiny.els,h.tiny.fall,h.tiny.give⟩⟩;rcases i with⟨q,_⟩ | q <;> (rw[q] at e;cases e)
theorem Al :qN 22 400 20 60 700000:=by
 intro w p a r x b1 hR hp b0;have k0:K_ w (w.alloc (.cells #[.slice none 0 0] 25)):=ag _ _;have g0:Hid (Rd (w.alloc (.cells #[.slice none 0 0] 25)) p a r x b1):=hR.kept k0;have l8:=hR.row.lt;have b2:Hid (aC ((w.alloc (.cells #[.slice none 0 0] 25)).alloc (.cells #[.slice none 0 0] 25)) w.heap.size 25 1):=(aC.made w _ _).kept (ag _ _);have e2:=fD.made (mN:=20) g0.o g0.o (Xk.refl _ _ _);rw[KR] at e2;have⟨e4,i7⟩:=aH e2 hR;clear hR e2;go_enter func22,ntmps22
 go_wp2_with fail
 refine (aK _ p a r x b1 _ 9 rfl e4.o.rd (by omega) (by omega) b0).mono ?_;rintro L w1 ⟨v1,rfl,l9,g3,e5⟩;have g4:=Kz (e4.o.drawn g3 e5);have g5:=Kz (b2.o.but e5 (by omega));obtain⟨n1,i8⟩:∃n1:Nat,n1=3+v1:=⟨_,rfl⟩;clear g3 e5 e4 b2;go_wp2
 go_loopg [5] n1 (fun g I wr=>∃(k:Nat) (p':Nat) (v:LQ) (a1:List Qq) (xs:List LQ),I= .int .i64 (k:Int)/\k+g=n1/\a1.length=k/\b1<=p'/\p'<=b1+1+12*k/\aC wr w.heap.size 25 1/\fD 20 (w.alloc (.cells #[.slice none 0 0] 25)) wr p (w.heap.size+1) a r x p' v a1 xs)
 case atStart=>exact⟨0,b1+1,_,[],[],rfl,by omega,rfl,by omega,by omega,g5.o,g4.o⟩
 case round=>
  clear g4 g5;obtain⟨k,p7,v,a1,xs,rfl,hk,hL,m0,m1,g6,G⟩:=hrel;obtain⟨wO,rfl⟩:=aj wr;have⟨HO,j,b2⟩:=dK G hL g6;obtain⟨av,cv,rfl⟩:=ax G.own;clear G hL g6;by_cases m2:(k:Int)<3+ (v1:Int)
  ·obtain⟨qm,e6⟩:∃qm:Nat,qm= (k+1) % n1:=⟨_,rfl⟩;have i9:((k:Int)+1).tmod (3+ (v1:Int))= (qm:Int):=by rw[Int.tmod_eq_emod_of_nonneg (by omega),e6,i8];push_cast;rfl
   have m3:qm<n1:=by rw[e6];exact Nat.mod_lt _ (by omega)
   have j0:((3+ (v1:Int)) == 0)=false:=by rw[beq_eq_false_iff_ne];omega
   clear e6;go_wp2_with fail
   refine (jd _ qm _ (by go_num) (by omega)).mono ?_;rintro L w2 ⟨H,rfl,m4,k2⟩;have d3:=Kz (EF HO.o.rd k2 (x:=H) (by omega));have m5:=k2.size;clear k2 i9 j0;obtain⟨wS,e7⟩:=aj ((w2.alloc (.cells #[.string H] 9)).alloc (.cells #[.slice (some ⟨w2.heap.size,0,none⟩) 1 1,.int .i64 0,.slice none 0 0,.int .i64 1,.int .i64 (-1),.bool false,.bool false,.string ⟨#[]⟩] 83));rw[<-e7] at d3;go_upto_region 7 with fail
   rw[<-e7];clear e7;go_wp2_with fail
   refine (aK _ p a r x p7 _ 3 rfl d3.o.rd (by omega) (by omega) b0).mono ?_;rintro L w3 ⟨v3,rfl,j1,g7,g8⟩;have d4:=Kz (d3.o.drawn g7 g8);clear g7 g8 d3;go_upto_if 26 with fail
   go_cut [6,7] from 26 to 42 (fun s6 _ wx=>∃(g b4:Nat) (s:Xj) (p':Nat),s6= .pointer (some ⟨w2.heap.size+1,0,none⟩)/\p7<=p'/\p'<=p7+2/\1<=s.asks.length/\s.asks.length<=2/\s.cases=[]/\SSt wO wx p (w2.heap.size+1) a r x p' (.slice (some ⟨g,0,none⟩) s.asks.length b4) (.slice none 0 0) s)
   case first=>
    by_cases h3:v3=0
    ·have e3:((v3:Int) == 0)=true:=by simp[h3]
     clear h3;go_wp2_with fail
     refine (aK _ p a r x (p7+1) _ n1 (by omega) d4.o.rd (by omega) (by omega) b0).mono ?_;rintro L w4 ⟨v4,rfl,m6,g9,h0⟩;have M:=Kz (d4.o.drawn g9 h0);clear g9 h0;go_wp2_with fail
     refine (jd _ v4 _ rfl (by omega)).mono ?_;rintro L w5 ⟨I,rfl,hx,h1⟩;have a2:=Kz (M.o.kept h1);clear h1 M;have y0:=a2.o.box.c0;have yz:=a2.o.box.row.lt;obtain⟨_,e8⟩:=a2.o.box.cell (o:=0) (by omega);have j2:=a2.o.asks.cells (g:=w2.heap.size) rfl 0 _ rfl;have m7:w2.heap.size<w5.heap.size:=by omega
     rw[KZ,La] at j2;cases j3:(I.toList == H.toList)
     ·have m8:=j3;obtain⟨ia,j4,j5,j6,j7⟩:=aN Tryz.d_;have d5:Hid (K_ w5 (w5.alloc (.cells #[.string I] 9))):=ag _ _;have j8:=Kz (a2.o.kept d5.o).asks;have j9:wO.heap.size<=(w5.alloc (.cells #[.string I] 9)).heap.size:=(a2.o.kept d5.o).kb.size;go_wp2_with (at_builtin;refine wpList_append_lies _ rfl (.tmp 38) (.tmp 40) 26 rfl wO.heap.size 9 ia _ 1 16 underlying26 j4 j5 j6 j7 rfl (by decide) (.slice (some ⟨w2.heap.size,0,none⟩) 1 1) 1 [.string H] rfl j8.o ⟨w5.heap.size,0,none⟩ 1 1 [.string I] rfl rfl (iH w5 I) (iq I) (by omega) (by unfold maxLen;omega) (by omega) j9 _ rfl ?_;intro g c6 w6 h4 e9 _ _;have d6:=a2.o.sw d5.o e9;have y2:=d6.c0;have z2:=d6.row.lt;obtain⟨_,f2⟩:=d6.cell (o:=0) (by omega);have k1:=Kz h4;have k3:=Kz e9;clear h4 e9 d6)
      go_meet
      exact⟨g,c6,⟨[H,I],0,[],1, -1,false,false,⟨#[]⟩⟩,p7+2,rfl,by omega,by omega,by show 1<= [H,I].length;simp,by show [H,I].length<=2;simp,rfl,a2.o.oD (x:=I) d5.o k1.o k3.o (by show 1+1<=20;omega) (by omega)⟩
     ·go_wp2
      go_meet
      exact⟨w2.heap.size,1,⟨[H],0,[],1, -1,false,false,⟨#[]⟩⟩,p7+2,rfl,by omega,by omega,by show 1<= [H].length;simp,by show [H].length<=2;simp,rfl,a2.o⟩
    ·have e3:((v3:Int) == 0)=false:=by simpa using h3
     clear h3;go_wp2
     go_meet
     exact⟨w2.heap.size,1,⟨[H],0,[],1, -1,false,false,⟨#[]⟩⟩,p7+1,rfl,by omega,by omega,by show 1<= [H].length;simp,by show [H].length<=2;simp,rfl,d4.o⟩
   case rest=>
    obtain⟨g,b4,s0,N,rfl,m9,n0,k4,k5,h6,G⟩:=hcut;have⟨HT,b5⟩:=aH G h6;clear G h6 d4 j1;go_wp2_with fail
    refine (aK _ p a r x N _ 6 rfl HT.o.rd (by omega) (by omega) b0).mono ?_;rintro L w5 ⟨v5,rfl,k6,h7,h8⟩;have M:=Kz (HT.o.drawn h7 h8);clear h7 h8 HT;obtain⟨b3,hm⟩:∃b3,b3+1=s0.asks.length:=⟨s0.asks.length-1,by omega⟩;have y0:=M.o.box.c0;have yz:=M.o.box.row.lt;obtain⟨_,e8⟩:=M.o.box.cell (o:=0) (by omega);rw[<-hm] at y0;have HM:=Kz hm;have k7:b3<=1:=by omega
    have k8:b3+1<=b4:=by have:=(M.o.ring b5.o).2.room;omega
    clear hm k4 k5;go_upto_if 45 with fail
    go_cut [6] from 43 to 49 (fun s6 wx=>∃(O:LM) (P:Nat) (s:Xj),s6= .pointer (some ⟨w2.heap.size+1,0,none⟩)/\jh wO wx p (w2.heap.size+1) a r x (N+1) O P s)
    case first=>
     by_cases h5:v5=0
     ·have k9:((v5:Int) == 0)=true:=by simp[h5]
      clear h5;have i1:(1:Int)<=(b3:Int)+1:=by omega
      have i2:(1:Int)<=(b4:Int):=by omega
      by_cases l0:b4=1
      ·subst l0;obtain rfl:b3=0:=by omega
       go_wp2
       go_meet
       exact⟨_,_,_,rfl,M.o.tail b5.o (by have:=HM.o;omega) (.inl ⟨rfl,rfl⟩) HM.o⟩
      ·go_wp2
       go_meet
       exact⟨_,_,_,rfl,M.o.tail b5.o (by have:=HM.o;omega) (.inr rfl) HM.o⟩
     ·have k9:((v5:Int) == 0)=false:=by simpa using h5
      clear h5;go_wp2
      go_meet
      exact⟨_,_,s0,rfl,(M.o.ring b5.o).2⟩
    case rest=>
     clear M b5 y0 yz e8 HM k7 k8 k6;obtain⟨O,P,s,rfl,G⟩:=hcut;obtain⟨wA,rfl⟩:=aj wc;have HT:=Kz G;have d7:=Kz (HO.o.drawn G.rd G.kb);have d8:w.heap.size<p\/p+1<=w.heap.size:=by omega
     have f0:p<wO.heap.size:=HO.o.rd.row.lt;have h9:=Kz (b2.o.but G.kb d8);have y5:=d7.o.c0;rw[j.o] at y5;have l1:=d7.o.row.lt;have n2:=G.sbl;clear G HO b2;obtain⟨f1,f3,f4,f5,f6⟩:=aN Tryz.lX;have n:Hid (∀(v:LP) (p' q':Nat),fD 20 (w.alloc (.cells #[.slice none 0 0] 25)) v p (w.heap.size+1) a r x p' (.slice av a1.length cv) a1 xs->jh wO v p (w2.heap.size+1) a r x q' O P s->(fun (v:LP)=>v.cell? ⟨w.heap.size+1,0,none⟩=some (.slice av k cv)/\v.cell? ⟨w2.heap.size+1,0,none⟩=some (.slice O s.asks.length P)/\v.cell? ⟨w2.heap.size+1,1,none⟩=some (.int .i64 s.on)/\v.cell? ⟨w2.heap.size+1,2,none⟩=some (.slice none 0 0)/\v.cell? ⟨w2.heap.size+1,3,none⟩=some (.int .i64 s.els)/\v.cell? ⟨w2.heap.size+1,4,none⟩=some (.int .i64 s.fall)/\v.cell? ⟨w2.heap.size+1,5,none⟩=some (.bool s.fin)/\v.cell? ⟨w2.heap.size+1,6,none⟩=some (.bool s.bad)/\v.cell? ⟨w2.heap.size+1,7,none⟩=some (.string s.give)) v):=fun v p' q' l2 h2=>⟨by rw[<-j.o];exact l2.c0,h2.box.c0,h2.box.c1,h2.box.c2,h2.box.c3,h2.box.c4,h2.box.c5,h2.box.c6,h2.box.c7⟩
     have KD:K_ wA wA.drew:=aL wA;have d9:=Kz (d7.o.kept KD);have b6:=Kz (HT.o.kept KD);have f7:=Kz (h9.o.kept KD);go_upto_region 13 with fail
     refine Qx.region (by kernel_rfl) (fun (v:LP)=>v.cell? ⟨w.heap.size+1,0,none⟩=some (.slice av k cv)/\v.cell? ⟨w2.heap.size+1,0,none⟩=some (.slice O s.asks.length P)/\v.cell? ⟨w2.heap.size+1,1,none⟩=some (.int .i64 s.on)/\v.cell? ⟨w2.heap.size+1,2,none⟩=some (.slice none 0 0)/\v.cell? ⟨w2.heap.size+1,3,none⟩=some (.int .i64 s.els)/\v.cell? ⟨w2.heap.size+1,4,none⟩=some (.int .i64 s.fall)/\v.cell? ⟨w2.heap.size+1,5,none⟩=some (.bool s.fin)/\v.cell? ⟨w2.heap.size+1,6,none⟩=some (.bool s.bad)/\v.cell? ⟨w2.heap.size+1,7,none⟩=some (.string s.give)) 15 (n.o _ _ _ d9.o b6.o) (fun c=>?_);generalize l3:wA.drew=wd at c d9 b6 f7⊢;clear l3 KD d7 HT h9 y5 l1;refine af 0 c ?_;refine af 1 c ?_;refine af 2 c ?_;refine af 4 c ?_;refine af 7 c ?_;refine af 8 c ?_;refine dx 3 9 (fun K b=>?_) (fun K b=>?_)
     ·rw[Lt (by rfl)];go_simp
      go_at_call 24
      refine (jd _ k _ rfl (by omega)).mono ?_;rintro L wl ⟨m,rfl,l4,kl⟩;have Q:=Kz (d9.o.kept kl);have a3:=Kz (b6.o.kept kl);have e0:=Kz (f7.o.kept kl)
      skip
      dsimp only;refine b.out _ _ (fun _=>n.o _ _ _ Q.o a3.o) ?_;clear b K c;have c:=n.o _ _ _ Q.o a3.o;try simp only[upP]
      refine dx 5 9 (fun K b=>?_) (fun K b=>?_)
      ·rw[Lt (by rfl)];go_simp
       go_at_call 21
       refine (aK _ p a r x (N+1) _ 4 rfl Q.o.rd (by omega) (by omega) b0).mono ?_;rintro L R ⟨e,rfl,i0,S,y⟩;have A:=Kz (Q.o.drawn S y);have J:=Kz (a3.o.drawn f0 S y);have b7:=Kz (e0.o.but y d8)
       skip
       dsimp only;refine b.out _ _ (fun _=>n.o _ _ _ A.o J.o) ?_;clear b K c S y;have c:=n.o _ _ _ A.o J.o;try simp only[upP]
       have ew:IntKind.i64.wrap (1+ (e:Int))=1+ (e:Int):=by simp[IntKind.wrap,IntKind.bits,IntKind.signed];omega
       refine bJ 6 (.int .i64 (1+ (e:Int))) c ?_ ?_
       ·intro u hu;try dsimp only at hu
        go_simp
        try with_reducible rfl
       try simp only[upP]
       clear ew;refine ah 9 (fun K b=>?_);go_simp
       obtain⟨T,U⟩:=aj R.heap.size;obtain⟨wb,C⟩:=aj (R.alloc (.cells #[.slice O s.asks.length P,.int .i64 s.on,.slice none 0 0,.int .i64 s.els,.int .i64 s.fall,.bool s.fin,.bool s.bad,.string s.give,.slice none 0 0,.int .i64 0,.slice none 0 0,.int .i64 0,.int .i64 0,.bool true,.bool false,.string ⟨#[114]⟩] 83));have D:K_ R wb:=by rw[C];exact ag _ _
       have V:=J.o.steps;rw[<-C,<-U] at V;have b8:=Kz V;have B:=Kz (A.o.kept D);have W:=Kz (J.o.kept D);have b9:=Kz (b7.o.kept D);rw[<-C,<-U];refine b.out _ _ (fun _=>n.o _ _ _ B.o W.o) ?_;clear b K c V C U D;have c:=n.o _ _ _ B.o W.o;try simp only[upP]
       refine af 10 c ?_;refine af 11 c ?_;refine ah 12 (fun K b=>?_);go_simp
       have l:K_ wb (wb.alloc (.cells #[.string m,.int .i64 (1+ (e:Int)),.slice (some ⟨T,0,none⟩) 2 2] 79)):=ag _ _;have X:=Kz (B.o.kept l);have Y:=Kz (W.o.kept l);refine ae b (fun _=>n.o _ _ _ X.o Y.o) ?_;clear b K c;refine ah 13 (fun K b=>?_);have E:=X.o.own;rw[j.o] at E;have c8:=X.o.kb.size;have c9:Hid (Qq.TinyN 20 ⟨m,1+ (e:Int),[s,bR ⟨#[114]⟩]⟩):=⟨by show m.size<=300;omega,by show -1000<=1+ (e:Int)/\1+ (e:Int)<=1000;omega,by show 2<=21;omega,fun a4 hy=>yx (p:=fun a4=>a4.TinyN 20) hy Y.o.tiny (iB (g:=⟨#[114]⟩) (show (1:Nat)<=300 by omega))⟩;refine step_append_lies _ rfl (.tmp 51) (.tmp 62) 23 rfl (w.alloc (.cells #[.slice none 0 0] 25)).heap.size 79 f1 _ 3 48 underlying23 f3 f4 f5 f6 rfl (by decide) (.slice av k cv) k xs (by simp[Act.eval]) E ⟨wb.heap.size,0,none⟩ 1 1 [.string m,.int .i64 (1+ (e:Int)),.slice (some ⟨T,0,none⟩) 2 2] (by simp[Act.eval]) rfl (mG _ _ _ _) (mO _ _ _ _ _) (by omega) (by unfold maxLen;omega) (by omega) c8 _ rfl ?_;intro g a5 Z a6 F d0 i3;have q:=B.o.fe l (by rw[j.o];exact F);have y6:=q.1;rw[j.o] at y6;have i4:=q.2.lt;have i5:=(q.2.row.at (i:=0) (by omega)).2;obtain⟨vo,i6⟩:=(q.2.row.at (i:=0) (by omega)).1;have a7:=b8.o.same (u:=25) (.aF l) (by decide) (by decide) (by decide);have d1:Hid (fD 20 (w.alloc (.cells #[.slice none 0 0] 25)) (Z.setCell ⟨w.heap.size+1,0,none⟩ (.slice (some ⟨g,0,none⟩) (k+1) a5)) p (w.heap.size+1) a r x (N+2) (.slice (some ⟨g,0,none⟩) (k+1) a5) (a1++ [⟨m,1+ (e:Int),[s,bR ⟨#[114]⟩]⟩]) (xs++ [.string m,.int .i64 (1+ (e:Int)),.slice (some ⟨T,0,none⟩) 2 2])):=
        B.o.push (d:=⟨m,1+ (e:Int),[s,bR ⟨#[114]⟩]⟩) l a7 c9.o (by rw[j.o];exact a6) (by rw[j.o];exact F)
       have a0:=ay.aI E F;have d2:Hid (aC Z w.heap.size 25 1):=by
        obtain⟨a8,g1,g2⟩:=b9.o.kept l;exact⟨a8,a0 _ a8 _ _ (by decide) g1,g2⟩
       have f:=Y.o.box.same a0 (by decide);have a9:(fun (v:LP)=>v.cell? ⟨w.heap.size+1,0,none⟩=some (.slice av k cv)/\v.cell? ⟨w2.heap.size+1,0,none⟩=some (.slice O s.asks.length P)/\v.cell? ⟨w2.heap.size+1,1,none⟩=some (.int .i64 s.on)/\v.cell? ⟨w2.heap.size+1,2,none⟩=some (.slice none 0 0)/\v.cell? ⟨w2.heap.size+1,3,none⟩=some (.int .i64 s.els)/\v.cell? ⟨w2.heap.size+1,4,none⟩=some (.int .i64 s.fall)/\v.cell? ⟨w2.heap.size+1,5,none⟩=some (.bool s.fin)/\v.cell? ⟨w2.heap.size+1,6,none⟩=some (.bool s.bad)/\v.cell? ⟨w2.heap.size+1,7,none⟩=some (.string s.give)) Z:=⟨y6,f.c0,f.c1,f.c2,f.c3,f.c4,f.c5,f.c6,f.c7⟩;clear q E a6 F d0 a0 l a7 f;refine ae b (fun _=>a9) ?_;clear b K;have c:=a9;refine af 14 c ?_;refine ah 15 (fun K b=>?_);go_simp
       refine ae b (fun h=>Lv rfl h) ?_;clear b K;refine aB ?_;go_wp2
       go_roundg (gk-1)
       case rel=>exact⟨k+1,N+2,_,_,_,by go_num,by omega,by rw[KS,j.o];rfl,by omega,by omega,d2.o.block (Below.heap_setCell _ _ _ _ (by simp)),d1.o⟩
       case measure=>omega
      ·go_simp
       obtain⟨T,U⟩:=aj wl.heap.size;obtain⟨wb,C⟩:=aj (wl.alloc (.cells #[.slice O s.asks.length P,.int .i64 s.on,.slice none 0 0,.int .i64 s.els,.int .i64 s.fall,.bool s.fin,.bool s.bad,.string s.give,.slice none 0 0,.int .i64 0,.slice none 0 0,.int .i64 0,.int .i64 0,.bool true,.bool false,.string ⟨#[114]⟩] 83));have D:K_ wl wb:=by rw[C];exact ag _ _
       have V:=a3.o.steps;rw[<-C,<-U] at V;have b8:=Kz V;have B:=Kz (Q.o.kept D);have W:=Kz (a3.o.kept D);have b9:=Kz (e0.o.kept D);rw[<-C,<-U];refine b.out _ _ (fun _=>n.o _ _ _ B.o W.o) ?_;clear b K c V C U D;have c:=n.o _ _ _ B.o W.o;try simp only[upP]
       refine ak 5 (fun K b=>?_);go_simp
       go_at_call 21
       refine (aK _ p a r x (N+1) _ 4 rfl B.o.rd (by omega) (by omega) b0).mono ?_;rintro L R ⟨e,rfl,i0,S,y⟩;have A:=Kz (B.o.drawn S y);have J:=Kz (W.o.drawn f0 S y);have b7:=Kz (b9.o.but y d8);have f8:=Kz (b8.o.same (y.sameKind B.o.rd) (by decide) (by decide) (by decide));dsimp only;refine b.out _ _ (fun _=>n.o _ _ _ A.o J.o) ?_;clear b K c S y;have c:=n.o _ _ _ A.o J.o;try simp only[upP]
       have ew:IntKind.i64.wrap (1+ (e:Int))=1+ (e:Int):=by simp[IntKind.wrap,IntKind.bits,IntKind.signed];omega
       refine bJ 6 (.int .i64 (1+ (e:Int))) c ?_ ?_
       ·intro u hu;try dsimp only at hu
        go_simp
        try with_reducible rfl
       try simp only[upP]
       clear ew;refine af 10 c ?_;refine af 11 c ?_;refine ah 12 (fun K b=>?_);go_simp
       have l:K_ R (R.alloc (.cells #[.string m,.int .i64 (1+ (e:Int)),.slice (some ⟨T,0,none⟩) 2 2] 79)):=ag _ _;have X:=Kz (A.o.kept l);have Y:=Kz (J.o.kept l);refine ae b (fun _=>n.o _ _ _ X.o Y.o) ?_;clear b K c;refine ah 13 (fun K b=>?_);have E:=X.o.own;rw[j.o] at E;have c8:=X.o.kb.size;have c9:Hid (Qq.TinyN 20 ⟨m,1+ (e:Int),[s,bR ⟨#[114]⟩]⟩):=⟨by show m.size<=300;omega,by show -1000<=1+ (e:Int)/\1+ (e:Int)<=1000;omega,by show 2<=21;omega,fun a4 hy=>yx (p:=fun a4=>a4.TinyN 20) hy Y.o.tiny (iB (g:=⟨#[114]⟩) (show (1:Nat)<=300 by omega))⟩;refine step_append_lies _ rfl (.tmp 51) (.tmp 62) 23 rfl (w.alloc (.cells #[.slice none 0 0] 25)).heap.size 79 f1 _ 3 48 underlying23 f3 f4 f5 f6 rfl (by decide) (.slice av k cv) k xs (by simp[Act.eval]) E ⟨R.heap.size,0,none⟩ 1 1 [.string m,.int .i64 (1+ (e:Int)),.slice (some ⟨T,0,none⟩) 2 2] (by simp[Act.eval]) rfl (mG _ _ _ _) (mO _ _ _ _ _) (by omega) (by unfold maxLen;omega) (by omega) c8 _ rfl ?_;intro g a5 Z a6 F d0 i3;have q:=A.o.fe l (by rw[j.o];exact F);have y6:=q.1;rw[j.o] at y6;have i4:=q.2.lt;have i5:=(q.2.row.at (i:=0) (by omega)).2;obtain⟨vo,i6⟩:=(q.2.row.at (i:=0) (by omega)).1;have a7:=f8.o.same (u:=25) (.aF l) (by decide) (by decide) (by decide);have d1:Hid (fD 20 (w.alloc (.cells #[.slice none 0 0] 25)) (Z.setCell ⟨w.heap.size+1,0,none⟩ (.slice (some ⟨g,0,none⟩) (k+1) a5)) p (w.heap.size+1) a r x (N+2) (.slice (some ⟨g,0,none⟩) (k+1) a5) (a1++ [⟨m,1+ (e:Int),[s,bR ⟨#[114]⟩]⟩]) (xs++ [.string m,.int .i64 (1+ (e:Int)),.slice (some ⟨T,0,none⟩) 2 2])):=
        A.o.push (d:=⟨m,1+ (e:Int),[s,bR ⟨#[114]⟩]⟩) l a7 c9.o (by rw[j.o];exact a6) (by rw[j.o];exact F)
       have a0:=ay.aI E F;have d2:Hid (aC Z w.heap.size 25 1):=by
        obtain⟨a8,g1,g2⟩:=b7.o.kept l;exact⟨a8,a0 _ a8 _ _ (by decide) g1,g2⟩
       have f:=Y.o.box.same a0 (by decide);have a9:(fun (v:LP)=>v.cell? ⟨w.heap.size+1,0,none⟩=some (.slice av k cv)/\v.cell? ⟨w2.heap.size+1,0,none⟩=some (.slice O s.asks.length P)/\v.cell? ⟨w2.heap.size+1,1,none⟩=some (.int .i64 s.on)/\v.cell? ⟨w2.heap.size+1,2,none⟩=some (.slice none 0 0)/\v.cell? ⟨w2.heap.size+1,3,none⟩=some (.int .i64 s.els)/\v.cell? ⟨w2.heap.size+1,4,none⟩=some (.int .i64 s.fall)/\v.cell? ⟨w2.heap.size+1,5,none⟩=some (.bool s.fin)/\v.cell? ⟨w2.heap.size+1,6,none⟩=some (.bool s.bad)/\v.cell? ⟨w2.heap.size+1,7,none⟩=some (.string s.give)) Z:=⟨y6,f.c0,f.c1,f.c2,f.c3,f.c4,f.c5,f.c6,f.c7⟩;clear q E a6 F d0 a0 l a7 f;refine ae b (fun _=>a9) ?_;clear b K;have c:=a9;refine af 14 c ?_;refine ah 15 (fun K b=>?_);go_simp
       refine ae b (fun h=>Lv rfl h) ?_;clear b K;refine aB ?_;go_wp2
       go_roundg (gk-1)
       case rel=>exact⟨k+1,N+2,_,_,_,by go_num,by omega,by rw[KS,j.o];rfl,by omega,by omega,d2.o.block (Below.heap_setCell _ _ _ _ (by simp)),d1.o⟩
       case measure=>omega
     ·go_simp
      obtain⟨T,U⟩:=aj wd.heap.size;obtain⟨wb,C⟩:=aj (wd.alloc (.cells #[.slice O s.asks.length P,.int .i64 s.on,.slice none 0 0,.int .i64 s.els,.int .i64 s.fall,.bool s.fin,.bool s.bad,.string s.give,.slice none 0 0,.int .i64 0,.slice none 0 0,.int .i64 0,.int .i64 0,.bool true,.bool false,.string ⟨#[114]⟩] 83));have D:K_ wd wb:=by rw[C];exact ag _ _
      have V:=b6.o.steps;rw[<-C,<-U] at V;have b8:=Kz V;have B:=Kz (d9.o.kept D);have W:=Kz (b6.o.kept D);have b9:=Kz (f7.o.kept D);rw[<-C,<-U];refine b.out _ _ (fun _=>n.o _ _ _ B.o W.o) ?_;clear b K c V C U D;have c:=n.o _ _ _ B.o W.o;try simp only[upP]
      refine ak 3 (fun K b=>?_);go_simp
      go_at_call 24
      refine (jd _ k _ rfl (by omega)).mono ?_;rintro L wl ⟨m,rfl,l4,kl⟩;have Q:=Kz (B.o.kept kl);have a3:=Kz (W.o.kept kl);have e0:=Kz (b9.o.kept kl);have l5:=Kz (b8.o.same (u:=25) (.aF kl) (by decide) (by decide) (by decide));dsimp only;refine b.out _ _ (fun _=>n.o _ _ _ Q.o a3.o) ?_;clear b K c;have c:=n.o _ _ _ Q.o a3.o;try simp only[upP]
      refine ak 5 (fun K b=>?_);go_simp
      go_at_call 21
      refine (aK _ p a r x (N+1) _ 4 rfl Q.o.rd (by omega) (by omega) b0).mono ?_;rintro L R ⟨e,rfl,i0,S,y⟩;have A:=Kz (Q.o.drawn S y);have J:=Kz (a3.o.drawn f0 S y);have b7:=Kz (e0.o.but y d8);have f8:=Kz (l5.o.same (y.sameKind Q.o.rd) (by decide) (by decide) (by decide));dsimp only;refine b.out _ _ (fun _=>n.o _ _ _ A.o J.o) ?_;clear b K c S y;have c:=n.o _ _ _ A.o J.o;try simp only[upP]
      have ew:IntKind.i64.wrap (1+ (e:Int))=1+ (e:Int):=by simp[IntKind.wrap,IntKind.bits,IntKind.signed];omega
      refine bJ 6 (.int .i64 (1+ (e:Int))) c ?_ ?_
      ·intro u hu;try dsimp only at hu
       go_simp
       try with_reducible rfl
      try simp only[upP]
      clear ew;refine af 10 c ?_;refine af 11 c ?_;refine ah 12 (fun K b=>?_);go_simp
      have l:K_ R (R.alloc (.cells #[.string m,.int .i64 (1+ (e:Int)),.slice (some ⟨T,0,none⟩) 2 2] 79)):=ag _ _;have X:=Kz (A.o.kept l);have Y:=Kz (J.o.kept l);refine ae b (fun _=>n.o _ _ _ X.o Y.o) ?_;clear b K c;refine ah 13 (fun K b=>?_);have E:=X.o.own;rw[j.o] at E;have c8:=X.o.kb.size;have c9:Hid (Qq.TinyN 20 ⟨m,1+ (e:Int),[s,bR ⟨#[114]⟩]⟩):=⟨by show m.size<=300;omega,by show -1000<=1+ (e:Int)/\1+ (e:Int)<=1000;omega,by show 2<=21;omega,fun a4 hy=>yx (p:=fun a4=>a4.TinyN 20) hy Y.o.tiny (iB (g:=⟨#[114]⟩) (show (1:Nat)<=300 by omega))⟩;refine step_append_lies _ rfl (.tmp 51) (.tmp 62) 23 rfl (w.alloc (.cells #[.slice none 0 0] 25)).heap.size 79 f1 _ 3 48 underlying23 f3 f4 f5 f6 rfl (by decide) (.slice av k cv) k xs (by simp[Act.eval]) E ⟨R.heap.size,0,none⟩ 1 1 [.string m,.int .i64 (1+ (e:Int)),.slice (some ⟨T,0,none⟩) 2 2] (by simp[Act.eval]) rfl (mG _ _ _ _) (mO _ _ _ _ _) (by omega) (by unfold maxLen;omega) (by omega) c8 _ rfl ?_;intro g a5 Z a6 F d0 i3;have q:=A.o.fe l (by rw[j.o];exact F);have y6:=q.1;rw[j.o] at y6;have i4:=q.2.lt;have i5:=(q.2.row.at (i:=0) (by omega)).2;obtain⟨vo,i6⟩:=(q.2.row.at (i:=0) (by omega)).1;have a7:=f8.o.same (u:=25) (.aF l) (by decide) (by decide) (by decide);have d1:Hid (fD 20 (w.alloc (.cells #[.slice none 0 0] 25)) (Z.setCell ⟨w.heap.size+1,0,none⟩ (.slice (some ⟨g,0,none⟩) (k+1) a5)) p (w.heap.size+1) a r x (N+2) (.slice (some ⟨g,0,none⟩) (k+1) a5) (a1++ [⟨m,1+ (e:Int),[s,bR ⟨#[114]⟩]⟩]) (xs++ [.string m,.int .i64 (1+ (e:Int)),.slice (some ⟨T,0,none⟩) 2 2])):=
       A.o.push (d:=⟨m,1+ (e:Int),[s,bR ⟨#[114]⟩]⟩) l a7 c9.o (by rw[j.o];exact a6) (by rw[j.o];exact F)
      have a0:=ay.aI E F;have d2:Hid (aC Z w.heap.size 25 1):=by
       obtain⟨a8,g1,g2⟩:=b7.o.kept l;exact⟨a8,a0 _ a8 _ _ (by decide) g1,g2⟩
      have f:=Y.o.box.same a0 (by decide);have a9:(fun (v:LP)=>v.cell? ⟨w.heap.size+1,0,none⟩=some (.slice av k cv)/\v.cell? ⟨w2.heap.size+1,0,none⟩=some (.slice O s.asks.length P)/\v.cell? ⟨w2.heap.size+1,1,none⟩=some (.int .i64 s.on)/\v.cell? ⟨w2.heap.size+1,2,none⟩=some (.slice none 0 0)/\v.cell? ⟨w2.heap.size+1,3,none⟩=some (.int .i64 s.els)/\v.cell? ⟨w2.heap.size+1,4,none⟩=some (.int .i64 s.fall)/\v.cell? ⟨w2.heap.size+1,5,none⟩=some (.bool s.fin)/\v.cell? ⟨w2.heap.size+1,6,none⟩=some (.bool s.bad)/\v.cell? ⟨w2.heap.size+1,7,none⟩=some (.string s.give)) Z:=⟨y6,f.c0,f.c1,f.c2,f.c3,f.c4,f.c5,f.c6,f.c7⟩;clear q E a6 F d0 a0 l a7 f;refine ae b (fun _=>a9) ?_;clear b K;have c:=a9;refine af 14 c ?_;refine ah 15 (fun K b=>?_);go_simp
      refine ae b (fun h=>Lv rfl h) ?_;clear b K;refine aB ?_;go_wp2
      go_roundg (gk-1)
      case rel=>exact⟨k+1,N+2,_,_,_,by go_num,by omega,by rw[KS,j.o];rfl,by omega,by omega,d2.o.block (Below.heap_setCell _ _ _ _ (by simp)),d1.o⟩
      case measure=>omega
  ·have y0:=HO.o.c0;rw[j.o] at y0;have zb:=HO.o.row.lt;have hG:=HO.o.web;rw[j.o] at hG;have f9:=sZ wO av cv a1 (mN:=20) (by omega) (by have:=j.o;omega) HO.o.tiny (by rw[j.o];exact hG);rw[j.o] at f9;have l6:=Kz f9;clear hG f9;go_wp2_with fail
   refine l6.o.mono ?_;intro L w6 hs;obtain⟨va,vn,vc,rfl,e1,hD⟩:=HO.o.sorted (p:=b1) (t:=400) hs b2.o (JP _) k0 i7.o (by omega) (by omega);have⟨HD,l7⟩:=aH hD e1;have z6:=e1.lt;obtain⟨⟨_,u0⟩,e8⟩:=e1.row.at (i:=0) (by omega);clear hD e1 hs;go_wp2
   have hR:=JU w6 w.heap.size 0 [.slice va vn vc] (l7.o.row.there (o:=0) (m:=1) (JP _));exact X_ [.slice va vn vc] _ results22 rfl hR underlying25 rfl Tryz.fC rfl HD.o
theorem Fz :qN 125 400 20 60 700000:=by
 intro w l a D E I T hp Z;have k0:K_ w (w.alloc (.cells #[.slice none 0 0] 25)):=ag _ _;have d5:Hid (Rd (w.alloc (.cells #[.slice none 0 0] 25)) l a D E I):=T.kept k0;have j5:=T.row.lt;have Q:Hid (aC ((w.alloc (.cells #[.slice none 0 0] 25)).alloc (.cells #[.slice none 0 0] 25)) w.heap.size 25 1):=(aC.made w _ _).kept (ag _ _);have b7:=fD.made (mN:=20) d5.o d5.o (Xk.refl _ _ _);rw[KR] at b7;have⟨b8,g6⟩:=aH b7 T;clear T b7;go_enter func125,ntmps125
 go_wp2_with fail
 refine (aK _ l a D E I _ 14 rfl b8.o.rd (by omega) (by omega) Z).mono ?_;rintro e w1 ⟨v1,rfl,j6,d6,b9⟩;have d7:=Kz (b8.o.drawn d6 b9);have d8:=Kz (Q.o.but b9 (by omega));obtain⟨n1,j7⟩:∃n1:Nat,n1=12+v1:=⟨_,rfl⟩;clear d6 b9 b8 Q;go_wp2
 go_loopg [5] n1 (fun g x wr=>∃(k:Nat) (p':Nat) (v:LQ) (a0:List Qq) (xs:List LQ),x= .int .i64 (k:Int)/\k+g=n1/\a0.length=k/\I<=p'/\p'<=I+1+12*k/\aC wr w.heap.size 25 1/\fD 20 (w.alloc (.cells #[.slice none 0 0] 25)) wr l (w.heap.size+1) a D E p' v a0 xs)
 case atStart=>exact⟨0,I+1,_,[],[],rfl,by omega,rfl,by omega,by omega,d8.o,d7.o⟩
 case round=>
  clear d7 d8;obtain⟨k,p7,v,a0,xs,rfl,hk,hL,j8,j9,d9,f⟩:=hrel;obtain⟨wO,rfl⟩:=aj wr;obtain⟨gO,rfl⟩:=aj gk;have⟨J,n,Q⟩:=dK f hL d9;obtain⟨av,cv,rfl⟩:=ax f.own;clear f hL d9;by_cases k1:(k:Int)<12+ (v1:Int)
  ·go_wp2_with fail
   refine (aK _ l a D E p7 _ 9 rfl J.o.rd (by omega) (by omega) Z).mono ?_;rintro e w2 ⟨j,rfl,k2,e0,e1⟩;have c3:=Kz (ASt.made J.o.rd e0 e1 (1+ (j:Int)));clear e0 e1;go_wp2_with fail
   refine (aK _ l a D E (p7+1) _ 3 rfl c3.o.rd (by omega) (by omega) Z).mono ?_;rintro e w3 ⟨a2,rfl,hq,e2,e3⟩;have e4:=Kz (c3.o.drawn e2 e3);clear e2 e3 c3;go_wp2
   go_loopg [7] a2 (fun g x wr=>∃(p':Nat) (v:LQ) (c:List Xj) (ys:List LQ),x= .int .i64 (g:Int)/\g<=a2/\I<=p'/\p'+5*g<=p7+2+5*a2/\c.length+g<=a2/\ASt wO wr l w2.heap.size a D E p' (1+ (j:Int)) v c ys)
   case atStart=>exact⟨p7+2,_,[],[],rfl,JP _,by omega,by omega,by simp,e4.o⟩
   case round=>
    clear e4;obtain⟨p8,vs,c,ys,rfl,k3,k4,k5,k7,f⟩:=hrel;obtain⟨K,rfl⟩:=aj wr;obtain⟨gI,rfl⟩:=aj gk;have L:=Kz f;obtain⟨sv,sc,rfl⟩:=ax f.own;have a1:=f.c1;have az:=f.row.lt;clear f;by_cases g7:(0:Int)<(gI:Int)
    ·have g8:c.length<=3:=by omega
     have c4:=Kz (SSt.made L.o.rd (els:=(c.length:Int)+1) (fall:= -1) (by omega) (by omega));go_wp2_with fail
     refine (aK _ l a D E p8 _ 4 rfl c4.o.rd (by omega) (by omega) Z).mono ?_;rintro e w4 ⟨q2,rfl,k8,e5,e6⟩;have e7:=Kz (c4.o.drawn e5 e6);clear e5 e6 c4;go_wp2
     go_loopg [9] (1+q2) (fun g x wr=>∃(va:LQ) (s:Xj) (p':Nat),x= .int .i64 (g:Int)/\g<=1+q2/\I<=p'/\p'+g<=p8+2+q2/\s.asks.length+g<=4/\s.cases=[]/\SSt K wr l K.heap.size a D E p' va (.slice none 0 0) s)
     case atStart=>exact⟨_,_,p8+1,by go_num,JP _,by omega,by omega,by show 0+ (1+q2)<=4;omega,rfl,e7.o⟩
     case round=>
      clear e7;obtain⟨va,s,p9,rfl,k9,l0,l1,l2,e8,f⟩:=hrel;have⟨M,f0⟩:=aH f e8;clear f e8;go_upto_region 12 with fail
      go_cut [43] from 38 to 43 (fun g9 wx=>∃b:Bool,g9= .bool b/\wx=wr/\(b=true->0<gk/\0<k))
      case first=>
       by_cases l3:(0:Int)<(gk:Int)
       ·by_cases h2:(0:Int)<(k:Int)
        ·go_wp2
         go_meet
         exact⟨_,rfl,rfl,fun _=>⟨by omega,by omega⟩⟩
        ·go_wp2
         go_meet
         exact⟨_,rfl,rfl,fun a3=>by simp at a3;omega⟩
       ·go_wp2
        go_meet
        exact⟨false,rfl,rfl,fun a3=>by cases a3⟩
      case rest=>
       obtain⟨b,rfl,rfl,hb⟩:=hcut;have HB:=Kz hb;clear hb;cases b
       ·obtain⟨wJ,rfl⟩:=aj wc;have U:=Kz (L.o.drawn M.o.rd M.o.kb);obtain⟨aa,ca,a5,a6,rfl,f1,hT⟩:=M.o.cells;have p:=Kz M.o;rw[f1] at p;have HT:=Kz hT;clear hT f1 M;have c0:=p.o.box.c0;have c1:=p.o.box.c1;have c2:=p.o.box.c2;have l4:=p.o.box.c3;have l5:=p.o.box.c4;have c5:=p.o.box.c5;have l6:=p.o.box.c6;have l7:=p.o.box.c7;have cz:=p.o.box.row.lt;have b1:=U.o.c1;have bz:=U.o.row.lt;have h:Hid (K_ wJ (wJ.alloc (.cells #[.slice aa s.asks.length ca,.int .i64 s.on,.slice a5 s.cases.length a6,.int .i64 s.els,.int .i64 s.fall,.bool s.fin,.bool s.bad,.string s.give] 83))):=ag _ _;have V:=Kz (U.o.kept h.o).own;have a7:=Kz (U.o.kept h.o).kb.size;have a8:=Kz (Dp wJ #[.slice aa s.asks.length ca,.int .i64 s.on,.slice a5 s.cases.length a6,.int .i64 s.els,.int .i64 s.fall,.bool s.fin,.bool s.bad,.string s.give]);obtain⟨ic,c6,c7,c8,d0⟩:=aN Tryz.jJ;go_wp2_with (at_builtin;refine wpList_append_own _ rfl (.tmp 62) (.tmp 64) 75 rfl wO.heap.size 83 ic _ 8 96 underlying75 c6 c7 c8 d0 rfl (by decide) (.slice sv c.length sc) c.length ys rfl V.o ⟨wJ.heap.size,0,none⟩ 1 1 (s.cells aa ca a5 a6) rfl rfl a8.o (iL s aa ca a5 a6) (by unfold maxLen;omega) (by omega) a7.o ?_;intro v' w5 r y _;have q:=U.o.fe h.o y;have z2:=q.2.lt;obtain⟨⟨_,y2⟩,f2⟩:=q.2.row.at (i:=1) (by omega);have W:=Kz r;obtain⟨N,O,rfl⟩:=ax r;have X:=Kz y;clear r y q)
        go_roundg (gI-1)
        case measure=>omega
        case rel=>exact⟨p9,_,c++ [s],_,by go_num,by omega,by omega,by omega,by rw[KS];show c.length+1+ (gI-1)<=a2;omega,U.o.push h.o HT.o p.o.tiny (p.o.ng rfl rfl) W.o X.o⟩
       ·obtain⟨l8,l9⟩:=HB.o rfl;obtain⟨wJ,rfl⟩:=aj wc;go_wp2_with fail
        refine (jO _ l a D E p9 k M.o.rd (by omega) (by omega) Z).mono ?_;rintro e w5 ⟨v5,rfl,m0,f3,f4⟩;have f5:=Kz (M.o.drawn f3 f4);clear f3 f4 M;go_wp2_with fail
        refine (jd _ v5 _ rfl (by omega)).mono ?_;rintro e H ⟨x,rfl,hx,k6⟩;have A:=Kz (f5.o.kept k6);clear k6 f5;obtain⟨d1,f6,rfl⟩:=ax A.o.asks;have y0:=A.o.box.c0;have yz:=A.o.box.row.lt;obtain⟨_,h0⟩:=A.o.box.cell (o:=0) (by omega);have m1:s.asks.length<=20:=A.o.tiny.asks;have h1:Hid (Strs H d1 s.asks):=by
         obtain⟨a9,c9,e9,_,hT⟩:=bg A.o.asks;simp only[KX] at e9;obtain⟨rfl,_,rfl⟩:=e9;exact hT.strs
        go_wp2_with fail
        refine (oP _ d1 f6 s.asks x (by omega) h1.o).mono ?_;rintro e w7 ⟨⟨r7,rfl,_⟩,rfl⟩;cases r7
        ·obtain⟨ia,h3,h4,h5,h6⟩:=aN Tryz.d_;have h:Hid (K_ w7 (w7.alloc (.cells #[.string x] 9))):=ag _ _;have V:=Kz (A.o.kept h.o).asks;have h7:K.heap.size<=(w7.alloc (.cells #[.string x] 9)).heap.size:=(A.o.kept h.o).kb.size;go_wp2_with (at_builtin;refine wpList_append_own _ rfl (.tmp 56) (.tmp 58) 26 rfl K.heap.size 9 ia _ 1 16 underlying26 h3 h4 h5 h6 rfl (by decide) (.slice d1 s.asks.length f6) s.asks.length (s.asks.map Value.string) rfl V.o ⟨w7.heap.size,0,none⟩ 1 1 [.string x] rfl rfl (iH w7 x) (iq x) (by unfold maxLen;omega) (by omega) h7 ?_;intro v' w8 r y _;have q:=A.o.sw h.o y;have y2:=q.c0;have z2:=q.row.lt;obtain⟨_,f2⟩:=q.cell (o:=0) (by omega);have W:=Kz r;obtain⟨m2,m3,rfl⟩:=ax r;have X:=Kz y;clear r y q)
         ·rename_i hfz
          rw[f2] at hfz;cases hfz
         go_roundg (gk-1)
         case measure=>omega
         case rel=>exact⟨_,{s with asks:=s.asks++ [x]},p9+1,by go_num,by omega,by omega,by omega,by show (s.asks++ [x]).length+ (gk-1)<=4;rw[KS];show s.asks.length+1+ (gk-1)<=4;omega,f0.o,A.o.oD h.o W.o X.o (by omega) (by omega)⟩
        ·go_wp2
         go_roundg (gk-1)
         case measure=>omega
         case rel=>exact⟨_,s,p9+1,by go_num,by omega,by omega,by omega,by omega,f0.o,A.o⟩
    ·have m4:¬(0:Int)<(gI:Int):=g7;have g8:c.length<=3:=by omega
     obtain⟨ic,c6,c7,c8,d0⟩:=aN Tryz.jJ;have h:Hid (K_ K (K.alloc (.cells #[.slice none 0 0,.int .i64 0,.slice none 0 0,.int .i64 0,.int .i64 0,.bool true,.bool false,.string ⟨#[119]⟩] 83))):=ag _ _;have V:=Kz (L.o.kept h.o).own;have a7:=Kz (L.o.kept h.o).kb.size;have a8:=Kz (Dp K #[.slice none 0 0,.int .i64 0,.slice none 0 0,.int .i64 0,.int .i64 0,.bool true,.bool false,.string ⟨#[119]⟩]);have h8:=Kz L.o;go_upto_region 19 with (at_builtin;refine wpList_append_own _ rfl (.tmp 68) (.tmp 70) 75 rfl wO.heap.size 83 ic _ 8 96 underlying75 c6 c7 c8 d0 rfl (by decide) (.slice sv c.length sc) c.length ys rfl V.o ⟨K.heap.size,0,none⟩ 1 1 ((bR ⟨#[119]⟩).cells none 0 none 0) rfl rfl a8.o (iL (bR ⟨#[119]⟩) none 0 none 0) (by unfold maxLen;omega) (by omega) a7.o ?_;intro v' w5 r y _;have q:=L.o.fe h.o y;have z2:=q.2.lt;obtain⟨⟨_,y2⟩,f2⟩:=q.2.row.at (i:=1) (by omega);have W:=Kz r;obtain⟨N,O,rfl⟩:=ax r;have X:=Kz y;clear r y q)
     have B:=L.o.push h.o (rD _ ⟨#[119]⟩) (iB (show (1:Nat)<=300 by omega)) (nS _) W.o X.o;have b0:(c++ [bR ⟨#[119]⟩]).length=c.length+1:=by simp
     obtain⟨LT,f7⟩:=aj (c++ [bR ⟨#[119]⟩]);rw[<-f7] at B b0;obtain⟨P,f8⟩:=aj (c.length+1);rw[<-f8] at B b0⊢;obtain⟨wA,f9⟩:=aj (w5.setCell ⟨w2.heap.size,1,none⟩ (.slice N P O));rw[<-f9] at B⊢;have⟨d2,h9⟩:=aH B b0;have m5:P<=4:=by omega
     have Y:=Kz (J.o.drawn B.rd B.kb);have i0:w.heap.size<l\/l+1<=w.heap.size:=by omega
     have i1:=Kz (Q.o.but B.kb i0);have q0:=B.c0;have q1:=B.c1;have qz:=B.row.lt;have y5:=Y.o.c0;rw[n.o] at y5;have i2:=Y.o.row.lt;have m6:w.heap.size≠w.heap.size+1:=by omega
     clear f7 f8 b0 f9 B W X V a8 a7 h L h8 a1 az z2 y2 f2 Q;obtain⟨i3,i4,i5,i6,i7⟩:=aN Tryz.lX;have b2:Hid (∀v:LP,K_ wA v->(fun (v:LP)=>v.cell? ⟨w.heap.size+1,0,none⟩=some (.slice av k cv)/\v.cell? ⟨w2.heap.size,0,none⟩=some (.int .i64 (1+ (j:Int)))/\v.cell? ⟨w2.heap.size,1,none⟩=some (.slice N P O)) v):=fun v kk=>⟨(kk.cell i2).trans y5,(kk.cell qz).trans q0,(kk.cell qz).trans q1⟩
     refine Qx.region (by kernel_rfl) (fun (v:LP)=>v.cell? ⟨w.heap.size+1,0,none⟩=some (.slice av k cv)/\v.cell? ⟨w2.heap.size,0,none⟩=some (.int .i64 (1+ (j:Int)))/\v.cell? ⟨w2.heap.size,1,none⟩=some (.slice N P O)) 9 ⟨y5,q0,q1⟩ (fun F=>?_);refine af 0 F ?_;refine af 1 F ?_;refine af 2 F ?_;refine af 4 F ?_;refine ak 3 (fun R C=>?_);go_simp
     go_at_call 24
     refine (jd _ k _ rfl (by omega)).mono ?_;rintro e H ⟨S,rfl,m7,k6⟩;have K6:K_ wA H:=(aL _).trans k6;dsimp only;refine C.out _ _ (fun _=>b2.o H K6) ?_;clear C R F k6;have F:=b2.o H K6;try simp only[upP]
     refine af 5 F ?_;refine ah 6 (fun R C=>?_);go_simp
     have G:K_ wA (H.alloc (.cells #[.string S,.int .i64 (1+ (j:Int)),.slice N P O] 79)):=K6.alloc _;refine ae C (fun _=>b2.o _ G) ?_;clear C R F;refine ah 7 (fun R C=>?_);have b3:=(Y.o.kept G).own;rw[n.o] at b3;have i8:=(Y.o.kept G).kb.size;have i9:Hid (Qq.TinyN 20 ⟨S,1+ (j:Int),LT⟩):=⟨by show S.size<=300;omega,by show -1000<=1+ (j:Int)/\1+ (j:Int)<=1000;omega,by show LT.length<=21;have:=h9.o;omega,d2.o.tiny⟩;refine step_append_lies _ rfl (.tmp 74) (.tmp 79) 23 rfl (w.alloc (.cells #[.slice none 0 0] 25)).heap.size 79 i3 _ 3 48 underlying23 i4 i5 i6 i7 rfl (by decide) (.slice av k cv) k xs (by simp[Act.eval]) b3 ⟨H.heap.size,0,none⟩ 1 1 [.string S,.int .i64 (1+ (j:Int)),.slice N P O] (by simp[Act.eval]) rfl (mG _ _ _ _) (mO _ _ _ _ _) (by omega) (by unfold maxLen;omega) (by omega) i8 _ rfl ?_;intro g g0 w8 g2 b4 j0 m8;have a4:=Y.o.fe G (by rw[n.o];exact b4);have y6:=a4.1;rw[n.o] at y6;have m9:=a4.2.lt;have n0:=(a4.2.row.at (i:=0) (by omega)).2;obtain⟨vo,n2⟩:=(a4.2.row.at (i:=0) (by omega)).1;have g3:=d2.o.g.same (u:=25) (.aF G) (by decide) (by decide) (by decide);have j1:Hid (fD 20 (w.alloc (.cells #[.slice none 0 0] 25)) (w8.setCell ⟨w.heap.size+1,0,none⟩ (.slice (some ⟨g,0,none⟩) (k+1) g0)) l (w.heap.size+1) a D E p8 (.slice (some ⟨g,0,none⟩) (k+1) g0) (a0++ [⟨S,1+ (j:Int),LT⟩]) (xs++ [.string S,.int .i64 (1+ (j:Int)),.slice N P O])):=
      Y.o.push (d:=⟨S,1+ (j:Int),LT⟩) G g3 i9.o (by rw[n.o];exact g2) (by rw[n.o];exact b4)
     have d3:=ay.aI b3 b4;have j2:Hid (aC w8 w.heap.size 25 1):=by
      obtain⟨b5,g1,g4⟩:=i1.o.kept G;exact⟨b5,d3 _ b5 _ _ (by decide) g1,g4⟩
     have g5:(fun (v:LP)=>v.cell? ⟨w.heap.size+1,0,none⟩=some (.slice av k cv)/\v.cell? ⟨w2.heap.size,0,none⟩=some (.int .i64 (1+ (j:Int)))/\v.cell? ⟨w2.heap.size,1,none⟩=some (.slice N P O)) w8:=by
      obtain⟨b5,g1,g4⟩:=d2.o.row.kept G;have hb:=d3 _ b5 _ _ (by decide) g1;have f:=b2.o _ G;exact⟨y6,by rw[Ke (hb.trans g1.symm)];exact f.2.1,by rw[Ke (hb.trans g1.symm)];exact f.2.2⟩
     clear a4 b3 g2 b4 j0 d3 G g3;refine ae C (fun _=>g5) ?_;clear C R;have F:=g5;refine af 8 F ?_;refine ah 9 (fun R C=>?_);go_simp
     refine ae C (fun a3=>Lv rfl a3) ?_;clear C R;refine aB ?_;go_wp2
     go_roundg (gO-1)
     case rel=>exact⟨k+1,p8,_,_,_,by go_num,by omega,by rw[KS,n.o];rfl,by omega,by omega,j2.o.block (Below.heap_setCell _ _ _ _ (by simp)),j1.o⟩
     case measure=>omega
  ·have y0:=J.o.c0;rw[n.o] at y0;have zb:=J.o.row.lt;have hG:=J.o.web;rw[n.o] at hG;have d4:=sZ wO av cv a0 (mN:=20) (by omega) (by have:=n.o;omega) J.o.tiny (by rw[n.o];exact hG);rw[n.o] at d4;have⟨j3,n3⟩:=aH d4 Q.o;clear hG d4;go_wp2_with fail
   refine j3.o.mono ?_;intro e H hs;obtain⟨va,vn,vc,rfl,b6,hD⟩:=J.o.sorted (p:=I) (t:=400) hs Q.o (JP _) k0 g6.o (by omega) (by omega);have⟨HD,j4⟩:=aH hD b6;have z6:=b6.lt;obtain⟨⟨_,u0⟩,h0⟩:=b6.row.at (i:=0) (by omega);clear hD b6 hs;go_wp2
   have T:=JU H w.heap.size 0 [.slice va vn vc] (j4.o.row.there (o:=0) (m:=1) (JP _));exact X_ [.slice va vn vc] _ results125 rfl T underlying25 rfl Tryz.fC rfl HD.o
theorem Ha(w:LP)(s:LK)(d:s.size<=maxLen):
  Calls prog 176 #[.string s] w fun e w'=>e= .returned (.int .u64 (sumOf s.data.toList))/\K_ w w':=by
 unfold maxLen at d;obtain⟨l,C,f,h,a⟩:=xG w s;go_enter func176,ntmps176
 go_wp2
 clear h;go_loopw [3,9] (fun x i wr=>∃k:Nat,k<=s.size/\i= .int .i64 k/\x= .int .u64 ((s.data.toList.take k).foldl dL 14695981039346656037)/\wr= (w.alloc (.cells C 5 f)).drew) (fun _ i _=>s.size-(intOf i).toNat)
 case atStart=>exact⟨0,JR _,rfl,rfl,rfl⟩
 case round=>
  obtain⟨k,m,rfl,rfl,rfl⟩:=hrel;by_cases b:k<s.size
  ·have n:=a k b;have c:k<s.data.toList.length:=by simpa using b
   have j:Hid ((s.data.toList.take (k+1)).foldl dL 14695981039346656037=dL ((s.data.toList.take k).foldl dL 14695981039346656037) s[k]):=by
    have e:=qP s.data.toList k c;rw[List.getD_eq_getElem?_getD,JV c,Lx] at e;exact e
   generalize (s.data.toList.take k).foldl dL 14695981039346656037=v at *;clear a;go_wp2
   go_roundw
   case rel=>exact⟨k+1,by omega,by go_num,by rw[j.o];rw[yj];rfl,by first | rfl | trivial⟩
   case measure=>simp[intOf];omega
  ·go_wp2
   go_ret
   have:k=s.data.toList.length:=by simp;omega
   subst this;rw[KI];exact⟨rfl,(ag _ _).drew⟩
theorem Jf(u:Nat)(h:u<18446744073709551616):bits BinOp.and IntKind.u64 (u:Int) 15= ((u % 16:Nat):Int):=by
 have e:=bits_and_u64_nat u 15 h (by omega);rw[show ((15:Nat):Int)=15 from rfl] at e;rw[e,show (15:Nat)=2 ^ 4-1 from rfl,Nat.and_two_pow_sub_one_eq_mod]
theorem Gn{j v:Nat}(h:v<18446744073709551616)(a:16<=v / 16 ^ j):j+1<=15:=by
 have c:16 ^ (j+1)<=v:=by
  rw[Nat.pow_succ];have:=Nat.div_mul_le_self v (16 ^ j);have:=Nat.mul_le_mul_right (16 ^ j) a;rw[Nat.mul_comm] at this;omega
 apply Decidable.byContradiction;intro d;have e:16 ^ 16<=16 ^ (j+1):=Nat.pow_le_pow_right (by omega) (by omega);have f:(16:Nat) ^ 16=18446744073709551616:=by decide
 omega
theorem Row.at0{b i:Nat}(h:Row w b n)(c:i<n):(∃v,w.cell? ⟨b,i,none⟩=some v)/\w.frozen? ⟨b,i,none⟩=false:=by
 obtain⟨t,f,h⟩:=h;exact⟨⟨_,h.cell c⟩,h.frozen i⟩
theorem IL(n:Nat)(h:n<16)(b:n<(⟨#[48,49,50,51,52,53,54,55,56,57,97,98,99,100,101,102,103,104,105,106,107,108,109,110,111,112,113,114,115,116,117,118,119,120,121,122]⟩:LK).size):
  (⟨#[48,49,50,51,52,53,54,55,56,57,97,98,99,100,101,102,103,104,105,106,107,108,109,110,111,112,113,114,115,116,117,118,119,120,121,122]⟩:LK)[n]=ny n:=by
 have:∀m:Fin 16,(⟨#[48,49,50,51,52,53,54,55,56,57,97,98,99,100,101,102,103,104,105,106,107,108,109,110,111,112,113,114,115,116,117,118,119,120,121,122]⟩:LK)[m.val]'(JQ m.isLt (by decide))=ny m.val:=by decide+kernel
 exact this ⟨n,h⟩
def Written(w:LP)(B v j:Nat):Prop:=∀t,t<j->w.cell? ⟨B,64-t,none⟩=some (.int .u8 ((ny (v / 16 ^ t % 16)).toNat:Int))
theorem Written.set{B v j:Nat}{old:LQ}(h:Written w B v j)(e:p+1+j=65)(a:w.cell? ⟨B,p,none⟩=some old){d:UInt8}(b:d=ny (v / 16 ^ j % 16)):Written (w.setCell ⟨B,p,none⟩ (.int .u8 (d.toNat:Int))) B v (j+1):=by
 intro t f;by_cases c:t=j
 ·subst c;have:64-t=p:=by omega
  rw[this,Ll _ _ _ a,b]
 ·rw[Kn _ _ _ _ (by simp <;> omega)];exact h t (by omega)
theorem Tryz.Jq :∃zs:Array LQ,zs.size=65/\∀W,(zeroValue 266).run prog W= .ok (.agg zs) W:=⟨Array.replicate 65 (.int .u8 0),by simp,fun W=>by kernel_rfl⟩
theorem Tryz.GN :prog.arrayLen 266=65:=by kernel_rfl
theorem Tryz.Jr :prog.underlying 266=some (.array (prog.arrayLen 266) (prog.elem 266)):=by kernel_rfl
theorem Tryz.Iq :prog.elem 266=5:=by kernel_rfl
theorem JH(W:LP)(B p:Nat)(d:p<=64):(Instr.sliceAt 266 (.pointer (some ⟨B,0,none⟩)) (some (.int .i64 (p:Int))) none none).run prog W= .ok (.slice (some ⟨B,p,none⟩) (65-p) (65-p)) W:=by
 rw[run_sliceAt_array_l W 266 ⟨B,0,none⟩ Tryz.Jr .i64 p (by omega) (by rw[Tryz.GN];omega),Tryz.Iq,Tryz.GN,Tryz.sizeOf5];have b:¬(65:Nat)=p:=by omega
 simp[Result.andThen,slicedAt,Addr.add,b];intro h;exact h.symm
theorem JD(W:LP)(B v j p:Nat)(f:p+1+j=65)(h:Written W B v (j+1)):(convert 22 9 (.slice (some ⟨B,p,none⟩) (65-p) (65-p))).run prog W= .ok (.string ⟨(je (j+1) v).toArray⟩) W:=by
 have b:(je (j+1) v).length=65-p:=by rw[gY];omega
 have e:=run_convert_bytes_back (P:=prog) W 22 9 5 ⟨B,p,none⟩ (65-p) (je (j+1) v) underlying22 underlying5 underlying9 (fun i k=>by
  have a:=h (j-i) (by omega);have c:64-(j-i)=p+i:=by omega
  rw[c] at a;have d:(⟨B,p,none⟩:Addr).add i= ⟨B,p+i,none⟩:=by simp[Addr.add]
  rw[Bj,Nat.add_sub_cancel,d];exact a)
 rw[b] at e;exact e
theorem wm(w:LP)(v:Nat)(m:v<18446744073709551616)(E:mW w):
  Calls prog 206 #[.slice none 0 0,.int .u64 v,.int .i64 16,.bool false,.bool false] w fun e w'=>(∃(n:Nat) (b:LK),e= .returned (.tuple #[.slice none 0 0,.string b])/\b.data.toList=je n v/\1<=n/\n<=16/\v<16 ^ n)/\K_ w w':=by
 obtain⟨a,h,O⟩:=Tryz.Jq;have P:¬a= #[]:=fun e=>by rw[e] at h;simp at h
 go_enter func206,ntmps206
 go_wp2_with (first | (go_at_call 213;refine (JB _ (E.kept (by repeat (first | apply K_.alloc | exact K_.refl _)))).mono ?_;rintro e w1 ⟨rfl,rfl⟩) | go_in)
 have q:Row (w.alloc (.cells a 266)) w.heap.size 65:=by have:=Row.made w a 266;rw[h] at this;exact this
 have r:K_ w (w.alloc (.cells a 266)):=ag _ _;go_loopw [1,13] (fun u F wr=>∃j:Nat,j<=15/\u= .int .u64 ((v / 16 ^ j:Nat):Int)/\(∃p:Nat,p+1+j=65/\F= .int .i64 ((p:Int)+1))/\K_ w wr/\Row wr w.heap.size 65/\Written wr w.heap.size v j) (fun u _ _=>(intOf u).toNat)
 case atStart=>exact⟨0,by omega,by simp,⟨64,by omega,rfl⟩,r,q,fun Q G=>aT G⟩
 case round=>
  obtain⟨j,R,rfl,⟨p,i,rfl⟩,s,k,t⟩:=hrel;clear q r;obtain⟨c,S⟩:=k.at0 (i:=p) (by omega);obtain⟨old,c⟩:=c;have⟨H,x⟩:=aH k t;clear k t;have I:v / 16 ^ j<18446744073709551616:=Nat.lt_of_le_of_lt (Nat.div_le_self _ _) m;have y:v / 16 ^ j / 16=v / 16 ^ (j+1):=by rw[Nat.div_div_eq_div_mul,Nat.pow_succ]
  have J:=Kz y;clear y;have l:Hid (16<=v / 16 ^ j->j+1<=15):=Gn m;have K:Hid (v / 16 ^ j<16->v<16 ^ (j+1)):=fun L=>by
   have:=Nat.lt_mul_of_div_lt L (Nat.pow_pos (by omega));rw[Nat.pow_succ,Nat.mul_comm];exact this
  generalize A:v / 16 ^ j=u at *;have B:=Kz A;clear A;have T:=Jf u I;have M:u % 16<16:=Nat.mod_lt _ (by omega);by_cases U:(16:Int)<=u
  ·go_wp2
   go_roundw
   case rel=>
    refine⟨j+1,l.o (by omega),by rw[<-J.o];simp,⟨p-1,by have:=l.o (by omega);omega,by congr 1;have:=l.o (by omega);omega⟩,K_.setCell s (JP _) _,Row.set H.o _ rfl _, ?_⟩;exact Written.set x.o i c (by rw[IL _ M,B.o])
   case measure=>simp[intOf];omega
  ·have f:u<16:=by omega
   have hcut:∀W,(Instr.sliceAt 266 (.pointer (some ⟨w.heap.size,0,none⟩)) (some (.int .i64 (p:Int))) none none).run prog W= .ok (.slice (some ⟨w.heap.size,p,none⟩) (65-p) (65-p)) W:=fun W=>JH W _ _ (by omega)
   have C:=fun W=>JD W w.heap.size v j p i
   have D:=fun N=>Kz (Written.set x.o i c (d:=(⟨#[48,49,50,51,52,53,54,55,56,57,97,98,99,100,101,102,103,104,105,106,107,108,109,110,111,112,113,114,115,116,117,118,119,120,121,122]⟩:LK)[u]'N) (by rw[IL _ f,B.o,Nat.mod_eq_of_lt f]))
   have V:=C _ (D (JQ f (by decide))).out;clear C D;go_wp2
   go_ret2
   exact⟨⟨j+1,_,rfl,rfl,by omega,by omega,K.o f⟩,K_.setCell s (JP _) _⟩
theorem wZ(w:LP)(v:Nat)(d:v<18446744073709551616)(f:mW w):
  Calls prog 197 #[.int .u64 v,.int .i64 16] w fun e w'=>(∃(n:Nat) (b:LK),e= .returned (.string b)/\b.data.toList=je n v/\1<=n/\n<=16/\v<16 ^ n)/\K_ w w':=by
 go_enter func197,ntmps197
 go_wp2_with fail
 refine (wm _ v d f).mono ?_;rintro e w1 ⟨⟨n,b,rfl,a,h,i,c⟩,j⟩;have⟨k,l⟩:=aH a c;clear a c;go_wp2
 go_ret
 exact⟨⟨n,b,rfl,k.o,h,i,l.o⟩,j⟩
theorem uW(w:LP)(v:Nat)(d:v<18446744073709551616)(f:mW w):
  Calls prog 189 #[.int .u64 v,.int .i64 16] w fun e w'=>(∃(n:Nat) (b:LK),e= .returned (.string b)/\b.data.toList=je n v/\1<=n/\n<=16/\v<16 ^ n)/\K_ w w':=by
 go_enter func189,ntmps189
 go_wp2_with fail
 refine (wZ _ v d f).mono ?_;rintro e w1 ⟨⟨n,b,rfl,a,h,i,c⟩,j⟩;have⟨k,l⟩:=aH a c;clear a c;go_wp2
 go_ret
 exact⟨⟨n,b,rfl,k.o,h,i,l.o⟩,j⟩
theorem Cr(w:LP)(v:Nat)(d:v<18446744073709551616)(f:mW w):
  Calls prog 175 #[.int .u64 v,.int .i64 16] w fun e w'=>(∃b:LK,e= .returned (.string b)/\b.data.toList=je 16 v)/\K_ w w':=by
 go_enter func175,ntmps175
 go_wp2_with fail
 refine (uW _ v d f).mono ?_;rintro e w1 ⟨⟨n,b,rfl,a,q,r,c⟩,h⟩;have s:b.size=n:=by have:=congrArg List.length a;rw[gY] at this;simpa using this
 have⟨i,j⟩:=aH a c;clear a c;obtain⟨m,k⟩:∃m:Nat,m+n=16:=⟨16-n,by omega⟩;have t:(16:Int)-(n:Int)= (m:Int):=by omega
 have x:(⟨#[48]⟩:LK).data.toList=[48]:=rfl;have l:(⟨#[48]⟩:LK).size*m<=140737488355328:=by rw[show (⟨#[48]⟩:LK).size=1 from rfl];omega
 have y:(m:Int)<=9223372036854775807:=by omega
 go_wp2_with fail
 refine (Tryz.strings_Repeat ⟨#[48]⟩ m _ (by omega) l).mono ?_;rintro e w2 ⟨rfl,p⟩;have A:(⟨(Lib.repeatL [48] m).toArray⟩:LK).size<=16:=by show (Lib.repeatL [48] m).toArray.size<=16;rw[List.size_toArray,Lib.repeatL_length];simp;omega
 go_wp2
 go_ret
 refine⟨⟨_,rfl, ?_⟩,K_.trans h p⟩;rw[fq,i.o,<-k,zV n v j.o m]
 congr 1
 have:=Lib.repeatL_replicate 48 1 m;simpa using this
def EB(s:LK):Prop:=200<s.size
theorem qB(w:LP)(s:LK):Calls prog 173 #[.string s] w fun e w'=>Says e (EB s)/\w'=w:=by
 by_cases h:(200:Int)<s.size
 ·have b:decide ((200:Int)<s.size)=true:=by simpa using h
  go_enter func173,ntmps173
  go_wp2
  go_ret
  exact⟨Says.congr (p:=True) (Says.yes trivial) ⟨fun _=>by unfold EB;omega,fun _=>trivial⟩,rfl⟩
 ·have b:decide ((200:Int)<s.size)=false:=by simpa using h
  go_enter func173,ntmps173
  go_wp2
  go_ret
  exact⟨Says.congr (p:=False) (Says.no id) ⟨False.elim,fun g=>by unfold EB at g;omega⟩,rfl⟩
def Aa(l:List LK):Prop:=∃i,i<l.length/\EB (l.getD i ByteArray.empty)
theorem xm(w:LP)(a:LM)(v:Nat)(l:List LK)(x:l.length<=maxLen)(y:Strs w a l):
  Calls prog 185 #[.slice a l.length v,.func (.func 173) #[] #[]] w fun e w'=>(∃r,e= .returned (.int .i64 r)/\(0<=r↔Aa l))/\w'=w:=by
 unfold maxLen at x;go_enter func185,ntmps185
 go_wp2
 go_loop [8] (fun i=>∃k:Nat,k<=l.length/\i= .int .i64 k/\∀j,j<k->¬EB (l.getD j ByteArray.empty)) (fun i=>l.length-(intOf i).toNat)
 case atStart=>exact⟨0,JR _,rfl,fun j h=>aT h⟩
 case round=>
  obtain⟨k,D,rfl,m⟩:=hrel;have n:=Kz m;clear m;by_cases p:k<l.length
  ·obtain⟨b,o,rfl,E,A⟩:=y k p;obtain⟨c,d⟩:=aj (l.getD k ByteArray.empty);rw[<-d] at A;have q:=Kz d;clear d;go_wp2_with fail
   refine (qB _ c).mono ?_;rintro e w1 ⟨f,rfl⟩;rcases f.cases with⟨rfl,s⟩|⟨rfl,t⟩
   ·have B:=Kz s;clear s f;go_wp2
    go_ret
    exact⟨⟨k,rfl,⟨fun _=>⟨k,p,by rw[<-q.o];exact B.o⟩,fun _=>by omega⟩⟩,rfl⟩
   ·have C:=Kz t;clear t f;go_wp2
    go_round
    case rel=>
     refine⟨k+1,by omega,by go_num,fun j h=>?_⟩;by_cases e:j=k
     ·subst e;rw[<-q.o];exact C.o
     ·exact n.o j (by omega)
    case measure=>simp[intOf];omega
  ·go_wp2
   go_ret
   exact⟨⟨-1,rfl,⟨fun F=>by omega,fun ⟨i,G,e⟩=>Lv e (n.o i (by omega))⟩⟩,rfl⟩
theorem ry(w:LP)(a:LM)(d:Nat)(l:List LK)(i:l.length<=maxLen)(j:Strs w a l):
  Calls prog 172 #[.slice a l.length d,.func (.func 173) #[] #[]] w fun e w'=>Says e (Aa l)/\w'=w:=by
 go_enter func172,ntmps172
 go_wp2_with fail
 refine (xm _ a d l i j).mono ?_;rintro e w1 ⟨⟨r,rfl,f⟩,rfl⟩;have h:=Kz f;clear f;by_cases c:0<=r
 ·have k:decide (0<=r)=true:=by simpa using c
  go_wp2
  go_ret
  exact⟨Says.congr (p:=True) (Says.yes trivial) ⟨fun _=>h.o.1 c,fun _=>trivial⟩,rfl⟩
 ·have k:decide (0<=r)=false:=by simpa using c
  go_wp2
  go_ret
  exact⟨Says.congr (p:=False) (Says.no id) ⟨False.elim,fun m=>by have:=h.o.2 m;omega⟩,rfl⟩
theorem FW(w:LP)(a:LM)(c:Nat)(l:List LK)(h:l.length<=c)(t:l.length<=100)(i:(Lib.join (texts l) [44]).length<=140737488355328)(d:Strs w a l):
  Calls prog 174 #[.slice a l.length c,.string ⟨#[44]⟩] w fun e w'=>(∃b:LK,e= .returned (.string b)/\b.data.toList=Lib.join (texts l) [44])/\K_ w w':=by
 by_cases j:l.length=0
 ·have k:l=[]:=LB j;subst k;refine (Tryz.strings_Join_none a c ⟨#[44]⟩ w).mono ?_;rintro e w' ⟨rfl,rfl⟩;exact⟨⟨_,rfl,rfl⟩,K_.refl _⟩
 ·obtain⟨b,o,rfl,m,_⟩:=d 0 (by omega);refine (Tryz.strings_Join b o c l ⟨#[44]⟩ w (fun n x p=>?_) m (by omega) h i).mono ?_
  ·obtain⟨f,q⟩:=JW.1 p;obtain⟨v,y,e,_,r⟩:=d n f;simp only[KT,LG,and_true] at e;obtain⟨rfl,rfl⟩:=e;rw[r];simp[List.getD,f,q]
  ·rintro e w' ⟨rfl,s⟩;exact⟨⟨_,rfl,rfl⟩,s⟩
theorem Cy(w:LP)(give:LK)(a:LM)(k:Nat)(l:List LK)(G:give.size<=maxLen)(t:l.length<=maxLen)(x:Strs w a l)(H:l.length<=k)(I:mW w):
  Calls prog 142 #[.string give,.slice a l.length k] w fun e w'=>e= .returned (.string (mZ give l))/\K_ w w':=by
 have J:=t;unfold maxLen at G t;by_cases y:(30:Int)<give.size
 ·have n:decide ((30:Int)<give.size)=true:=by simpa using y
  go_enter func142,ntmps142
  go_wp2
  go_ret
  exact⟨kR (jI (.inl (by omega))).symm,K_.refl _⟩
 ·have n:decide ((30:Int)<give.size)=false:=by simpa using y
  by_cases A:(100:Int)<l.length
  ·have p:decide ((100:Int)<l.length)=true:=by simpa using A
   go_enter func142,ntmps142
   go_wp2
   go_ret
   exact⟨kR (jI (.inr (.inl (by omega)))).symm,K_.refl _⟩
  ·have p:decide ((100:Int)<l.length)=false:=by simpa using A
   go_enter func142,ntmps142
   go_wp2_with fail
   refine (ry _ a k l J x).mono ?_;rintro e w1 ⟨b,rfl⟩;rcases b.cases with⟨rfl,f⟩|⟨rfl,h⟩
   ·have i:=Kz f;clear f b n p;go_wp2
    go_ret
    obtain⟨j,d,K⟩:=i.o;exact⟨kR (jI (.inr (.inr ⟨j,d,K⟩))).symm,K_.refl _⟩
   ·have q:Hid (oG give l):=⟨by omega,by omega,fun j d=>by
     apply Decidable.byContradiction;intro T;exact h ⟨j,d,by unfold EB;omega⟩⟩
    clear h b n p;have L:(Lib.join (texts l) [44]).length<=100*201:=by
     have:=Ig (texts l) 200 (fun U B=>by
      simp only[texts,Ku] at B;obtain⟨W,M,rfl⟩:=B;obtain⟨j,d,rfl⟩:=Kb M;have:=q.o.2.2 j d;simpa[List.getD,d] using this)
     rw[jv] at this;omega
    go_wp2_with fail
    refine (FW _ a k l H (by omega) (by omega) x).mono ?_;rintro e w2 ⟨⟨m,rfl,r⟩,C⟩;have X:m.size<=20100:=by have:=congrArg List.length r;simp at this;omega
    have D:Hid ((give++ ⟨#[40]⟩++m++ ⟨#[41]⟩).data.toList=jr give.data.toList (texts l)):=by
     show _=_;rw[fq,fq,fq,r];simp[jr]
    clear r L;have Y:(give++ ⟨#[40]⟩++m++ ⟨#[41]⟩:LK).size<=30000:=by
     have N:(⟨#[40]⟩:LK).size=1:=rfl;have O:(⟨#[41]⟩:LK).size=1:=rfl;simp only[ByteArray.size_append,N,O];omega
    go_wp2_with fail
    generalize (give++ ⟨#[40]⟩++m++ ⟨#[41]⟩:LK)=c at *;refine (qB _ c).mono ?_;rintro e Z ⟨b,rfl⟩;rcases b.cases with⟨rfl,f⟩|⟨rfl,h⟩
    ·have i:Hid (200<c.size):=f;clear f b;go_wp2_with fail
     refine (Ha _ c (by unfold maxLen;omega)).mono ?_;rintro e w4 ⟨rfl,P⟩;have E:=K_.trans C P;have a0:=qH c.data.toList;have F:Hid (mZ give l= ⟨(35 :: je 16 (sumOf c.data.toList).toNat).toArray⟩):=yf q.o D.o i.o;generalize sumOf c.data.toList=V at *;obtain⟨v,rfl⟩:∃v:Nat,V=v:=⟨V.toNat,by omega⟩;rw[Int.toNat_natCast] at F;go_wp2_with fail
     refine (Cr _ v (by omega) (I.kept E)).mono ?_;rintro e w5 ⟨⟨Q,rfl,s⟩,R⟩;have a1:Q.size=16:=by have:=congrArg List.length s;rw[gY] at this;simpa using this
     have S:=Kz s;clear s;go_wp2
     go_ret
     exact⟨kR (by rw[F.o];apply yK;rw[fq,S.o];rfl),K_.trans E R⟩
    ·have i:Hid (¬200<c.size):=h;clear h b;go_wp2
     go_ret
     exact⟨kR (vT q.o D.o (by have:=i.o;omega)).symm,C⟩
