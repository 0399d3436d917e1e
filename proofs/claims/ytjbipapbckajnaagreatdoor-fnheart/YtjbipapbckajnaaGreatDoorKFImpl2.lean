import Derived.Test.YtjbipapbckajnaaGreatDoorKURes
import Derived.Test.YtjbipapbckajnaaGreatDoorKShelfS
import Derived.Test.YtjbipapbckajnaaGreatDoorKFFmt
set_option maxRecDepth 100000
set_option maxHeartbeats 25600000
namespace Go.Proofs.YtjbipapbckajnaaGreatDoor
open Go.RowKit Go.Proofs.Tryz
theorem mi(w:NI)(s:NG)(b:s.size<=1048576):Calls prog 24 #[.string s] w λe w'=>e= .returned (.string s)/\K_ w w':=by
 go_enter func24,ntmps24
 go_wp2_with fail
 refine (Tryz.stringslite_Clone s _ E5).mono ?_;rintro e c ⟨rfl,a⟩;go_wp2
 go_ret
 exact⟨rfl,a⟩
theorem ji(w:NI)(a:NH)(A:Nat)(l:List NG)(N:l.length<=1048576)(B:∀s∈l,s.size<=1048576)(C:Strs w a l):
  Calls prog 23 #[.slice a l.length A,.func (.func 24) #[] #[]] w λe w'=>∃a',e= .returned (.slice a' l.length l.length)/\bX w' w.heap.size w'.heap.size a' l/\K_ w w':=by
 by_cases r:l.length=0
 .have D:l=[]:=Nz r;subst D;go_enter func23,ntmps23
  go_wp2
  go_ret
  exact⟨none,rfl,.inl rfl,K_.refl _⟩
 .have E:=run_make_row' (P:=prog) 26 9 _ _ underlying26 Tryz.Ba rfl .i64 .i64 l.length E5 E5;have F:((l.length:Int) == 0)=false:=by simpa using r
  go_enter func23,ntmps23
  go_wp2
  clear E F;have t:Row (w.alloc (.cells (madeCells #[.string ByteArray.empty] l.length) 9)) w.heap.size l.length:=⟨_,_,World.rowIs_made w (.string ByteArray.empty) l.length 9⟩;have v:K_ w (w.alloc (.cells (madeCells #[.string ByteArray.empty] l.length) 9)):=Below.alloc (Below.refl _ _) (Me _) _;go_loopw [16] (λi wr=>∃k:Nat,k<=l.length/\i= .a k/\K_ w wr/\Row wr w.heap.size l.length/\∀j,j<k->wr.cell? ⟨w.heap.size,j,none⟩=some (.string (l.getD j ByteArray.empty))) (λi _=>l.length-(intOf i).toNat)
  case atStart=>exact⟨0,Mg _,rfl,v,t,λj d=>aO d⟩
  case round=>
   obtain⟨k,O,rfl,f,c,x⟩:=hrel;clear t v;have m:=Kz x;by_cases n:k<l.length
   .obtain⟨b,o,rfl,Q,y⟩:=C.kept f k n;have z:=B (l.getD k ByteArray.empty) (by simp[List.getD,n]);obtain⟨s,p⟩:=aj (l.getD k ByteArray.empty);rw[<-p] at y z;have G:=Kz p;clear p x;have H:=c.lt;go_wp2_with fail
    refine (mi _ s z).mono ?_;rintro e I ⟨rfl,h⟩;have q:=c.kept h;have J:=Kz q;have K:Hid (∀j,j<k->I.cell? ⟨w.heap.size,j,none⟩=some (.string (l.getD j ByteArray.empty))):=λj d=>by rw[h.cell H];exact m.o j d
    obtain⟨⟨old,L⟩,R⟩:=q.at n;have M:=f.trans h;clear m c q f h y;go_wp2
    go_roundw
    case rel=>
     refine⟨k+1,E5,F3,M.setCell (Me _) _,J.o.set _ rfl _,λj d=>?_⟩;by_cases e:j=k
     .subst e;rw[Nl _ _ _ L,G.o]
     .rw[ME _ _ _ _ F7];exact K.o j E5
    case measure=>simp[intOf];omega
   .have:k=l.length:=E5;subst this;go_wp2
    go_ret
    exact⟨_,rfl,.inr ⟨w.heap.size,rfl,Me _,c.lt,c,m.o⟩,f⟩
theorem Tryz.xL :(prog.info? 84).map (·.size)=some 4:=F4
theorem Tryz.qO :(prog.info? 84).map (λi=>(i.zero,i.size,i.bytes))=some (some (.agg #[.string ByteArray.empty,.bool false,.bool false,.string ByteArray.empty]),4,40):=F4
theorem fC.one(r:fC):(#[.string r.name,.bool r.over,.bool r.fail,.string r.text]:Array NJ).all (·.oneCell')=true:=
 all_oneCell_toArray (cs:=[.string r.name,.bool r.over,.bool r.fail,.string r.text]) J5
theorem xC(w:NI)(r:fC)(z:r.name.size<=1048576)(A:r.text.size<=1048576):
  Calls prog 130 #[.agg #[.string r.name,.bool r.over,.bool r.fail,.string r.text]] w λe w'=>e= .returned (.agg #[.string r.name,.bool r.over,.bool r.fail,.string r.text])/\K_ w w':=by
 go_enter func130,ntmps130
 go_wp2_with fail
 refine (mi _ r.name z).mono ?_;rintro e a ⟨rfl,b⟩;have j:Row a w.heap.size 4:=Row.kept (Row.alloc (by have:=Row.made w #[.string r.name,.bool r.over,.bool r.fail,.string r.text] 84;simpa using this) _) b;have B:a.cell? ⟨w.heap.size,0,none⟩=some (.string r.name):=by rw[b.cell F7];simp
 have q:a.cell? ⟨w.heap.size,1,none⟩=some (.bool r.over):=by rw[b.cell F7];simp
 have s:a.cell? ⟨w.heap.size,2,none⟩=some (.bool r.fail):=by rw[b.cell F7];simp
 have t:a.cell? ⟨w.heap.size,3,none⟩=some (.string r.text):=by rw[b.cell F7];simp
 have v:Row a (w.heap.size+1) 4:=Row.kept (by have:=Row.made (w.alloc (.cells #[.string r.name,.bool r.over,.bool r.fail,.string r.text] 84)) #[.string ⟨#[]⟩,.bool false,.bool false,.string ⟨#[]⟩] 84;simpa using this) b;have x:K_ w a:=K_.trans H6 b;have C:=(j.at (i:=0) E5).2;have D:=j.lt;have⟨l,y⟩:=aH j v;have k:=Kz (And.intro q (And.intro s t));clear b v j q s;go_wp2_with fail
 have n:Row (a.setCell ⟨w.heap.size,0,none⟩ (.string r.name)) w.heap.size 4:=l.o.set _ rfl _;refine (mi _ r.text A).mono ?_;rintro e d ⟨rfl,c⟩;have f:=n.lt;have p:=n.kept c;have I:d.cell? ⟨w.heap.size,0,none⟩=some (.string r.name):=by rw[c.cell f];exact aW l.o E5 _
 have J:d.cell? ⟨w.heap.size,1,none⟩=some (.bool r.over):=by rw[c.cell f,Xk E5];exact k.o.1
 have K:d.cell? ⟨w.heap.size,2,none⟩=some (.bool r.fail):=by rw[c.cell f,Xk E5];exact k.o.2.1
 have L:d.cell? ⟨w.heap.size,3,none⟩=some (.string r.text):=by rw[c.cell f,Xk E5];exact k.o.2.2
 have h:Hid (Row d (w.heap.size+1) 4):=(y.o.set _ rfl _).kept c;have E:Hid (K_ w d):=K_.trans (K_.setCell x E9 _) c;have M:=(p.at (i:=3) E5).2;have N:=p.lt;obtain⟨⟨O,P⟩,Q⟩:=h.o.at (i:=0) E5;obtain⟨⟨R,S⟩,T⟩:=h.o.at (i:=1) E5;obtain⟨⟨U,V⟩,W⟩:=h.o.at (i:=2) E5;obtain⟨⟨X,Y⟩,Z⟩:=h.o.at (i:=3) E5;clear c n f B t D C l y k x p;go_wp2
 have F:Row (d.setCell ⟨w.heap.size,3,none⟩ (.string r.text)) (w.heap.size+1) 4:=Row.set h.o _ rfl _;have G:=Mi _ (w.heap.size+1) 0 r.cells (F.there (o:=0) (m:=4) (Me _));refine Zx r.cells _ results130 rfl G underlying84 rfl Tryz.xL rfl ⟨rfl, ?_⟩;have H:=E.o
 repeat (first | (refine K_.setCell ?_ F7 _) | exact H)
theorem BA(w:NI)(a:NH)(G:Nat)(l:List fC)(X:l.length<=1048576)(H:∀c∈l,c.name.size<=1048576/\c.text.size<=1048576)(I:qK w a l):
  Calls prog 129 #[.slice a l.length G,.func (.func 130) #[] #[]] w λe w'=>∃a',e= .returned (.slice a' l.length l.length)/\il w' w.heap.size w'.heap.size a' l/\K_ w w':=by
 by_cases A:l.length=0
 .have J:l=[]:=Nz A;subst J;go_enter func129,ntmps129
  go_wp2
  go_ret
  exact⟨none,rfl,.inl rfl,K_.refl _⟩
 .have K:=qj (P:=prog) 41 84 _ _ _ underlying41 Tryz.qO .i64 .i64 l.length E5 E5;have L:((l.length:Int) == 0)=false:=by simpa using A
  go_enter func129,ntmps129
  go_wp2
  clear K L;have s:=Row.made w (madeCells #[.string ByteArray.empty,.bool false,.bool false,.string ByteArray.empty] (l.length*4)) 84;rw[size_madeCells] at s;have B:K_ w (w.alloc (.cells (madeCells #[.string ByteArray.empty,.bool false,.bool false,.string ByteArray.empty] (l.length*4)) 84)):=ah _ _;go_loopw [16] (λt wr=>∃k:Nat,k<=l.length/\t= .a k/\K_ w wr/\Row wr w.heap.size (l.length*4)/\∀j,j<k->wr.rangeAt w.heap.size (j*4) (l.getD j fC.zero).cells) (λt _=>l.length-(intOf t).toNat)
  case atStart=>exact⟨0,Mg _,rfl,B,s,λj h=>aO h⟩
  case round=>
   obtain⟨k,Y,rfl,i,f,v⟩:=hrel;clear s B;by_cases C:k<l.length
   .obtain⟨b,o,rfl,Z,d⟩:=I.kept i k C;have n:=H (l.getD k fC.zero) (by simp[List.getD,C]);have D:=Kz v;clear v;obtain⟨c,x⟩:=aj (l.getD k fC.zero);rw[<-x] at d n;have M:=Kz x;clear x;have E:=d 0 _ rfl;have N:=d 1 _ rfl;have O:=d 2 _ rfl;have Q:=d 3 _ rfl;simp only[M_] at E;clear d;have R:=f.lt;go_wp2_with fail
    refine (xC _ c n.1 n.2).mono ?_;rintro e p ⟨rfl,F⟩;have q:K_ wr p:=K_.trans (by repeat (first | (refine K_.setCell ?_ E9 _) | apply K_.alloc | exact K_.refl _)) F;have S:=i.trans q;have y:=f.kept q;have z:=y.there (o:=k*4) (m:=4) E5;have⟨T,U⟩:=aH z y;have V:Hid (∀j,j<k->p.rangeAt w.heap.size (j*4) (l.getD j fC.zero).cells):=λj h=>q.range R (D.o j h)
    clear D E N O Q i F q f y;go_wp2_with (refine wpList_store_mid ?hgd 84 (.tmp 26) (.tmp 25) (by with_reducible rfl) w.heap.size (k*4) #[.string c.name,.bool c.over,.bool c.fail,.string c.text] ?hx ?hy ?ht ?hi ?h1 ?_)
    case hgd=>rfl
    case hx=>rfl
    case hy=>rfl
    case ht=>exact z
    case hi=>exact Tryz.xL
    case h1=>exact fC.one c
    generalize r:World.setCells p w.heap.size (k*4) (Array.toList #[.string c.name,.bool c.over,.bool c.fail,.string c.text])=w6;have W:=Kz r;clear r z n;go_wp2
    go_roundw
    case rel=>
     have r:=W.o;subst r;refine⟨k+1,E5,F3,K_.setCells (Me _) c.cells (k*4) S,Row.setCells c.cells (k*4) U.o,λj h=>?_⟩;by_cases e:j=k
     .subst e;rw[<-M.o];exact Mi p w.heap.size (j*4) c.cells T.o
     .exact Mx (V.o j E5) w.heap.size (k*4) c.cells (by simp[fC.cells];omega)
    case measure=>simp[intOf];omega
   .go_wp2
    go_ret
    have:k=l.length:=E5;subst this;exact⟨_,rfl,.inr ⟨w.heap.size,rfl,Me _,f.lt,f,v⟩,i⟩
theorem CQ(w:NI)(r:fC):
  Calls prog 82 #[.agg #[.string r.name,.bool r.over,.bool r.fail,.string r.text]] w λe w'=>e= .returned (.bool (!r.over))/\K_ w w':=by
 go_enter func82,ntmps82
 go_wp2
 go_ret
 exact⟨rfl,ah _ _⟩
theorem yE(w:NI)(a:NH)(y:Nat)(l:List fC)(I:l.length<=1048576)(z:qK w a l):
  Calls prog 132 #[.slice a l.length y,.func (.func 82) #[] #[]] w λe w'=>(∃i:Int,e= .returned (.a i)/\(0<=i↔∃r∈l,r.over=false))/\K_ w w':=by
 go_enter func132,ntmps132
 go_wp2
 go_loopw [8] (λi wr=>∃k:Nat,k<=l.length/\i= .a (k:Int)/\Hid (∀r∈l.take k,r.over=true)/\K_ w wr) (λi _=>l.length-(intOf i).toNat)
 case atStart=>exact⟨0,Mg _,rfl,Kz (λr j=>by simp at j),K_.refl _⟩
 case round=>
  obtain⟨k,J,rfl,p,m⟩:=hrel;by_cases f:k<l.length
  .obtain⟨b,o,rfl,K,d⟩:=z.kept m k f;obtain⟨c,n⟩:=aj (l.getD k fC.zero);rw[<-n] at d;have q:l[k]=c:=by rw[n];simp[List.getD,f]
   have s:=Kz q;have t:=d 0 _ rfl;have A:=d 1 _ rfl;have B:=d 2 _ rfl;have C:=d 3 _ rfl;simp only[M_] at t;have L:(k:Int)<(l.length:Int):=E5;clear d n q;go_wp2_with fail
   refine (CQ _ c).mono ?_;rintro e M ⟨rfl,D⟩;have v:=m.trans D;clear t A B C;cases x:c.over
   .go_wp2
    go_ret
    exact⟨⟨_,rfl,λ_=>⟨c,by rw[<-s.o];exact Mq f,x⟩,λ_=>E5⟩,v⟩
   .have E:Hid (∀r∈l.take (k+1),r.over=true):=λr j=>by
     rw[Ml f,s.o] at j;rcases Mo.1 j with h|h
     .exact p.o r h
     .rw[Mm] at h;rw[h];exact x
    go_wp2
    go_roundw
    case rel=>exact⟨k+1,E5,F3,E,v⟩
    case measure=>simp[intOf];omega
  .have N:¬((k:Int)<(l.length:Int)):=E5;have F:Hid (∀r∈l,r.over=true):=by have h:=p.o;rw[MO E5] at h;exact h
   clear f;go_wp2
   go_ret
   exact⟨⟨_,rfl,λh=>E5,λ⟨r,G,H⟩=>by have:=F.o r G;rw[H] at this;cases this⟩,m⟩
theorem vW(w:NI)(a:NH)(d:Nat)(l:List fC)(i:l.length<=1048576)(j:qK w a l):
  Calls prog 81 #[.slice a l.length d,.func (.func 82) #[] #[]] w λe w'=>Says e (∃r∈l,r.over=false)/\K_ w w':=by
 go_enter func81,ntmps81
 go_wp2_with fail
 refine (yE w a d l i j).mono ?_;rintro e n ⟨⟨k,rfl,b⟩,f⟩;cases h:decide ((0:Int)<=k)
 .have c:Hid (¬∃r∈l,r.over=false):=λm=>by have:=b.2 m;simp[this] at h
  clear b;go_wp2
  go_ret
  exact⟨Says.no c.o,f⟩
 .have c:=Kz (b.1 (by simpa using h));clear b;go_wp2
  go_ret
  exact⟨Says.yes c.o,f⟩
theorem JC(w:NI)(s:NG)(d:s.size<=maxLen):
  Calls prog 172 #[.string s] w λe w'=>e= .returned (.int .u64 (sumOf s.data.toList))/\K_ w w':=by
 unfold maxLen at d;obtain⟨l,C,f,h,a⟩:=yN w s;go_enter func172,ntmps172
 go_wp2
 clear h;go_loopw [3,9] (λx i wr=>∃k:Nat,k<=s.size/\i= .a k/\x= .int .u64 ((s.data.toList.take k).foldl dS 14695981039346656037)/\wr= (w.alloc (.cells C 5 f)).drew) (λ_ i _=>s.size-(intOf i).toNat)
 case atStart=>exact⟨0,Mg _,rfl,rfl,rfl⟩
 case round=>
  obtain⟨k,m,rfl,rfl,rfl⟩:=hrel;by_cases b:k<s.size
  .have n:=a k b;have c:k<s.data.toList.length:=by simpa using b
   have j:Hid ((s.data.toList.take (k+1)).foldl dS 14695981039346656037=dS ((s.data.toList.take k).foldl dS 14695981039346656037) s[k]):=by
    have e:=rZ s.data.toList k c;rw[List.getD_eq_getElem?_getD,Mj c,Nw] at e;exact e
   generalize (s.data.toList.take k).foldl dS 14695981039346656037=v at *;clear a;go_wp2
   go_roundw
   case rel=>exact⟨k+1,E5,F3,by rw[j.o];rw[zJ];rfl,by first | rfl | trivial⟩
   case measure=>simp[intOf];omega
  .go_wp2
   go_ret
   have:k=s.data.toList.length:=F6;subst this;rw[MN];exact⟨rfl,(ah _ _).drew⟩
theorem Lb(u:Nat)(h:u<18446744073709551616):bits BinOp.and IntKind.u64 (u:Int) 15= ((u % 16:Nat):Int):=by
 have e:=bits_and_u64_nat u 15 h E5;rw[show ((15:Nat):Int)=15 from rfl] at e;rw[e,show (15:Nat)=2 ^ 4-1 from rfl,Nat.and_two_pow_sub_one_eq_mod]
theorem IU{j v:Nat}(h:v<18446744073709551616)(a:16<=v / 16 ^ j):j+1<=15:=by
 have c:16 ^ (j+1)<=v:=by
  rw[Nat.pow_succ];have:=Nat.div_mul_le_self v (16 ^ j);have:=Nat.mul_le_mul_right (16 ^ j) a;rw[Nat.mul_comm] at this;omega
 apply Decidable.byContradiction;intro d;have e:16 ^ 16<=16 ^ (j+1):=Nat.pow_le_pow_right E5 E5;have f:(16:Nat) ^ 16=18446744073709551616:=E8;omega
theorem Row.at0{w:NI}{b n i:Nat}(h:Row w b n)(hi:i<n):(∃v,w.cell? ⟨b,i,none⟩=some v)/\w.frozen? ⟨b,i,none⟩=false:=by
 obtain⟨t,f,h⟩:=h;exact⟨⟨_,h.cell hi⟩,h.frozen i⟩
theorem Kv(n:Nat)(h:n<16)(b:n<(⟨#[48,49,50,51,52,53,54,55,56,57,97,98,99,100,101,102,103,104,105,106,107,108,109,110,111,112,113,114,115,116,117,118,119,120,121,122]⟩:NG).size):
  (⟨#[48,49,50,51,52,53,54,55,56,57,97,98,99,100,101,102,103,104,105,106,107,108,109,110,111,112,113,114,115,116,117,118,119,120,121,122]⟩:NG)[n]=nY n:=by
 have:∀m:Fin 16,(⟨#[48,49,50,51,52,53,54,55,56,57,97,98,99,100,101,102,103,104,105,106,107,108,109,110,111,112,113,114,115,116,117,118,119,120,121,122]⟩:NG)[m.val]'(Mf m.isLt E8)=nY m.val:=by decide+kernel
 exact this ⟨n,h⟩
def Written(w:NI)(B v j:Nat):Prop:=∀t,t<j->w.cell? ⟨B,64-t,none⟩=some (.int .u8 ((nY (v / 16 ^ t % 16)).toNat:Int))
theorem Written.set{w:NI}{B v j p:Nat}{old:NJ}(h:Written w B v j)(e:p+1+j=65)(a:w.cell? ⟨B,p,none⟩=some old){d:UInt8}(b:d=nY (v / 16 ^ j % 16)):Written (w.setCell ⟨B,p,none⟩ (.int .u8 (d.toNat:Int))) B v (j+1):=by
 intro t f;by_cases c:t=j
 .subst c;have:64-t=p:=E5;rw[this,Nl _ _ _ a,b]
 .rw[ME _ _ _ _ F7];exact h t E5
theorem Tryz.Lr :∃zs:Array NJ,zs.size=65/\∀W,(zeroValue 298).run prog W= .ok (.agg zs) W:=⟨Array.replicate 65 (.int .u8 0),E9,λW=>F4⟩
theorem Tryz.Ju :prog.arrayLen 298=65:=F4
theorem Tryz.Ls :prog.underlying 298=some (.array (prog.arrayLen 298) (prog.elem 298)):=F4
theorem Tryz.J_ :prog.elem 298=5:=F4
theorem LU(W:NI)(B p:Nat)(d:p<=64):(Instr.sliceAt 298 (.c B) (some (.a (p:Int))) none none).run prog W= .ok (.slice (some ⟨B,p,none⟩) (65-p) (65-p)) W:=by
 rw[run_sliceAt_array_l W 298 ⟨B,0,none⟩ Tryz.Ls .i64 p E5 (by rw[Tryz.Ju];omega),Tryz.J_,Tryz.Ju,Tryz.sizeOf5];have b:¬(65:Nat)=p:=E5;simp[Result.andThen,slicedAt,Addr.add,b];intro h;exact h.symm
theorem LM(W:NI)(B v j p:Nat)(f:p+1+j=65)(h:Written W B v (j+1)):(convert 22 9 (.slice (some ⟨B,p,none⟩) (65-p) (65-p))).run prog W= .ok (.string ⟨(jA (j+1) v).toArray⟩) W:=by
 have b:(jA (j+1) v).length=65-p:=by rw[iC];omega
 have e:=run_convert_bytes_back (P:=prog) W 22 9 5 ⟨B,p,none⟩ (65-p) (jA (j+1) v) underlying22 underlying5 underlying9 (λi k=>by
  have a:=h (j-i) E5;have c:64-(j-i)=p+i:=E5;rw[c] at a;have d:(⟨B,p,none⟩:Addr).add i= ⟨B,p+i,none⟩:=by simp[Addr.add]
  rw[CJ,Nat.add_sub_cancel,d];exact a)
 rw[b] at e;exact e
theorem xM(w:NI)(v:Nat)(m:v<18446744073709551616)(D:nS w):
  Calls prog 225 #[M0,.int .u64 v,.a 16,.bool false,.bool false] w λe w'=>(∃(n:Nat) (b:NG),e= .returned (.tuple #[M0,.string b])/\b.data.toList=jA n v/\1<=n/\n<=16/\v<16 ^ n)/\K_ w w':=by
 obtain⟨a,h,N⟩:=Tryz.Lr;have O:¬a= #[]:=λe=>by rw[e] at h;simp at h
 go_enter func225,ntmps225
 go_wp2_with (first | (go_at_call 232;refine (LH _ (D.kept H6)).mono ?_;rintro e P ⟨rfl,rfl⟩) | go_in)
 have q:Row (w.alloc (.cells a 298)) w.heap.size 65:=by have:=Row.made w a 298;rw[h] at this;exact this
 have r:K_ w (w.alloc (.cells a 298)):=ah _ _;go_loopw [1,13] (λu E wr=>∃j:Nat,j<=15/\u= .int .u64 ((v / 16 ^ j:Nat):Int)/\(∃p:Nat,p+1+j=65/\E= .a ((p:Int)+1))/\K_ w wr/\Row wr w.heap.size 65/\Written wr w.heap.size v j) (λu _ _=>(intOf u).toNat)
 case atStart=>exact⟨0,E5,E9,⟨64,E5,rfl⟩,r,q,λQ F=>aO F⟩
 case round=>
  obtain⟨j,R,rfl,⟨p,i,rfl⟩,s,k,t⟩:=hrel;clear q r;obtain⟨c,S⟩:=k.at0 (i:=p) E5;obtain⟨old,c⟩:=c;have⟨G,x⟩:=aH k t;clear k t;have H:v / 16 ^ j<18446744073709551616:=Nat.lt_of_le_of_lt (Nat.div_le_self _ _) m;have y:v / 16 ^ j / 16=v / 16 ^ (j+1):=by rw[Nat.div_div_eq_div_mul,Nat.pow_succ]
  have I:=Kz y;clear y;have l:Hid (16<=v / 16 ^ j->j+1<=15):=IU m;have J:Hid (v / 16 ^ j<16->v<16 ^ (j+1)):=λK=>by
   have:=Nat.lt_mul_of_div_lt K (Nat.pow_pos E5);rw[Nat.pow_succ,Nat.mul_comm];exact this
  generalize z:v / 16 ^ j=u at *;have A:=Kz z;clear z;have T:=Lb u H;have L:u % 16<16:=Nat.mod_lt _ E5;by_cases U:(16:Int)<=u
  .go_wp2
   go_roundw
   case rel=>
    refine⟨j+1,l.o E5,by rw[<-I.o];simp,⟨p-1,by have:=l.o E5;omega,by congr 1;have:=l.o E5;omega⟩,K_.setCell s (Me _) _,Row.set G.o _ rfl _, ?_⟩;exact Written.set x.o i c (by rw[Kv _ L,A.o])
   case measure=>simp[intOf];omega
  .have f:u<16:=E5;have hcut:∀W,(Instr.sliceAt 298 (.c w.heap.size) (some (.a (p:Int))) none none).run prog W= .ok (.slice (some ⟨w.heap.size,p,none⟩) (65-p) (65-p)) W:=λW=>LU W _ _ E5
   have B:=λW=>LM W w.heap.size v j p i
   have C:=λM=>Kz (Written.set x.o i c (d:=(⟨#[48,49,50,51,52,53,54,55,56,57,97,98,99,100,101,102,103,104,105,106,107,108,109,110,111,112,113,114,115,116,117,118,119,120,121,122]⟩:NG)[u]'M) (by rw[Kv _ f,A.o,Nat.mod_eq_of_lt f]))
   have V:=B _ (C (Mf f E8)).out;clear B C;go_wp2
   go_ret2
   exact⟨⟨j+1,_,rfl,rfl,E5,E5,J.o f⟩,K_.setCell s (Me _) _⟩
theorem ym(w:NI)(v:Nat)(d:v<18446744073709551616)(f:nS w):
  Calls prog 215 #[.int .u64 v,.a 16] w λe w'=>(∃(n:Nat) (b:NG),e= .returned (.string b)/\b.data.toList=jA n v/\1<=n/\n<=16/\v<16 ^ n)/\K_ w w':=by
 go_enter func215,ntmps215
 go_wp2_with fail
 refine (xM _ v d f).mono ?_;rintro e m ⟨⟨n,b,rfl,a,h,i,c⟩,j⟩;have⟨k,l⟩:=aH a c;clear a c;go_wp2
 go_ret
 exact⟨⟨n,b,rfl,k.o,h,i,l.o⟩,j⟩
theorem wG(w:NI)(v:Nat)(d:v<18446744073709551616)(f:nS w):
  Calls prog 200 #[.int .u64 v,.a 16] w λe w'=>(∃(n:Nat) (b:NG),e= .returned (.string b)/\b.data.toList=jA n v/\1<=n/\n<=16/\v<16 ^ n)/\K_ w w':=by
 go_enter func200,ntmps200
 go_wp2_with fail
 refine (ym _ v d f).mono ?_;rintro e m ⟨⟨n,b,rfl,a,h,i,c⟩,j⟩;have⟨k,l⟩:=aH a c;clear a c;go_wp2
 go_ret
 exact⟨⟨n,b,rfl,k.o,h,i,l.o⟩,j⟩
theorem DW(w:NI)(v:Nat)(d:v<18446744073709551616)(f:nS w):
  Calls prog 171 #[.int .u64 v,.a 16] w λe w'=>(∃b:NG,e= .returned (.string b)/\b.data.toList=jA 16 v)/\K_ w w':=by
 go_enter func171,ntmps171
 go_wp2_with fail
 refine (wG _ v d f).mono ?_;rintro e q ⟨⟨n,b,rfl,a,r,s,c⟩,h⟩;have t:b.size=n:=by have:=congrArg List.length a;rw[iC] at this;simpa using this
 have⟨i,j⟩:=aH a c;clear a c;obtain⟨m,k⟩:∃m:Nat,m+n=16:=⟨16-n,E5⟩;have x:(16:Int)-(n:Int)= (m:Int):=E5;have y:(⟨#[48]⟩:NG).data.toList=[48]:=rfl;have l:(⟨#[48]⟩:NG).size*m<=140737488355328:=by rw[show (⟨#[48]⟩:NG).size=1 from rfl];omega
 have z:(m:Int)<=9223372036854775807:=E5;go_wp2_with fail
 refine (Tryz.strings_Repeat ⟨#[48]⟩ m _ E5 l).mono ?_;rintro e A ⟨rfl,p⟩;have B:(⟨(Lib.repeatL [48] m).toArray⟩:NG).size<=16:=by show (Lib.repeatL [48] m).toArray.size<=16;rw[List.size_toArray,Lib.repeatL_length];simp;omega
 go_wp2
 go_ret
 refine⟨⟨_,rfl, ?_⟩,K_.trans h p⟩;rw[fM,i.o,<-k,Bl n v j.o m]
 congr 1
 have:=Lib.repeatL_replicate 48 1 m;simpa using this
def Gg(s:NG):Prop:=200<s.size
theorem rF(w:NI)(s:NG):Calls prog 169 #[.string s] w λe w'=>Says e (Gg s)/\w'=w:=by
 by_cases h:(200:Int)<s.size
 .have b:decide ((200:Int)<s.size)=true:=by simpa using h
  go_enter func169,ntmps169
  go_wp2
  go_ret
  exact⟨Says.congr (p:=True) (Says.yes trivial) ⟨λ_=>by unfold Gg;omega,λ_=>trivial⟩,rfl⟩
 .have b:decide ((200:Int)<s.size)=false:=by simpa using h
  go_enter func169,ntmps169
  go_wp2
  go_ret
  exact⟨Says.congr (p:=False) (Says.no id) ⟨False.elim,λg=>by unfold Gg at g;omega⟩,rfl⟩
def Bt(l:List NG):Prop:=∃i,i<l.length/\Gg (l.getD i ByteArray.empty)
theorem yx(w:NI)(a:NH)(v:Nat)(l:List NG)(x:l.length<=maxLen)(y:Strs w a l):
  Calls prog 178 #[.slice a l.length v,.func (.func 169) #[] #[]] w λe w'=>(∃r,e= .returned (.a r)/\(0<=r↔Bt l))/\w'=w:=by
 unfold maxLen at x;go_enter func178,ntmps178
 go_wp2
 go_loop [8] (λi=>∃k:Nat,k<=l.length/\i= .a k/\∀j,j<k->¬Gg (l.getD j ByteArray.empty)) (λi=>l.length-(intOf i).toNat)
 case atStart=>exact⟨0,Mg _,rfl,λj h=>aO h⟩
 case round=>
  obtain⟨k,C,rfl,m⟩:=hrel;have n:=Kz m;clear m;by_cases p:k<l.length
  .obtain⟨b,o,rfl,D,z⟩:=y k p;obtain⟨c,d⟩:=aj (l.getD k ByteArray.empty);rw[<-d] at z;have q:=Kz d;clear d;go_wp2_with fail
   refine (rF _ c).mono ?_;rintro e E ⟨f,rfl⟩;rcases f.cases with⟨rfl,s⟩|⟨rfl,t⟩
   .have A:=Kz s;clear s f;go_wp2
    go_ret
    exact⟨⟨k,rfl,⟨λ_=>⟨k,p,by rw[<-q.o];exact A.o⟩,λ_=>E5⟩⟩,rfl⟩
   .have B:=Kz t;clear t f;go_wp2
    go_round
    case rel=>
     refine⟨k+1,E5,F3,λj h=>?_⟩;by_cases e:j=k
     .subst e;rw[<-q.o];exact B.o
     .exact n.o j E5
    case measure=>simp[intOf];omega
  .go_wp2
   go_ret
   exact⟨⟨-1,rfl,⟨λF=>E5,λ⟨i,G,e⟩=>Nv e (n.o i E5)⟩⟩,rfl⟩
theorem sK(w:NI)(a:NH)(d:Nat)(l:List NG)(i:l.length<=maxLen)(j:Strs w a l):
  Calls prog 153 #[.slice a l.length d,.func (.func 169) #[] #[]] w λe w'=>Says e (Bt l)/\w'=w:=by
 go_enter func153,ntmps153
 go_wp2_with fail
 refine (yx _ a d l i j).mono ?_;rintro e n ⟨⟨r,rfl,f⟩,rfl⟩;have h:=Kz f;clear f;by_cases c:0<=r
 .have k:decide (0<=r)=true:=by simpa using c
  go_wp2
  go_ret
  exact⟨Says.congr (p:=True) (Says.yes trivial) ⟨λ_=>h.o.1 c,λ_=>trivial⟩,rfl⟩
 .have k:decide (0<=r)=false:=by simpa using c
  go_wp2
  go_ret
  exact⟨Says.congr (p:=False) (Says.no id) ⟨False.elim,λm=>by have:=h.o.2 m;omega⟩,rfl⟩
theorem Iw(w:NI)(a:NH)(c:Nat)(l:List NG)(h:l.length<=c)(t:l.length<=100)(i:(Lib.join (texts l) [44]).length<=140737488355328)(d:Strs w a l):
  Calls prog 170 #[.slice a l.length c,.string ⟨#[44]⟩] w λe w'=>(∃b:NG,e= .returned (.string b)/\b.data.toList=Lib.join (texts l) [44])/\K_ w w':=by
 by_cases j:l.length=0
 .have k:l=[]:=Nz j;subst k;refine (Tryz.strings_Join_none a c ⟨#[44]⟩ w).mono ?_;rintro e w' ⟨rfl,rfl⟩;exact⟨⟨_,rfl,rfl⟩,K_.refl _⟩
 .obtain⟨b,o,rfl,m,_⟩:=d 0 E5;refine (Tryz.strings_Join b o c l ⟨#[44]⟩ w (λn x p=>?_) m E5 h i).mono ?_
  .obtain⟨f,q⟩:=Mk.1 p;obtain⟨v,y,e,_,r⟩:=d n f;simp only[MV,ND,and_true] at e;obtain⟨rfl,rfl⟩:=e;rw[r];simp[List.getD,f,q]
  .rintro e w' ⟨rfl,s⟩;exact⟨⟨_,rfl,rfl⟩,s⟩
theorem Ea(w:NI)(give:NG)(a:NH)(k:Nat)(l:List NG)(F:give.size<=maxLen)(t:l.length<=maxLen)(x:Strs w a l)(G:l.length<=k)(H:nS w):
  Calls prog 118 #[.string give,.slice a l.length k] w λe w'=>e= .returned (.string (mY give l))/\K_ w w':=by
 have I:=t;unfold maxLen at F t;by_cases y:(30:Int)<give.size
 .have n:decide ((30:Int)<give.size)=true:=by simpa using y
  go_enter func118,ntmps118
  go_wp2
  go_ret
  exact⟨lF (jV (.inl E5)).symm,K_.refl _⟩
 .have n:decide ((30:Int)<give.size)=false:=by simpa using y
  by_cases z:(100:Int)<l.length
  .have p:decide ((100:Int)<l.length)=true:=by simpa using z
   go_enter func118,ntmps118
   go_wp2
   go_ret
   exact⟨lF (jV (.inr (.inl E5))).symm,K_.refl _⟩
  .have p:decide ((100:Int)<l.length)=false:=by simpa using z
   go_enter func118,ntmps118
   go_wp2_with fail
   refine (sK _ a k l I x).mono ?_;rintro e S ⟨b,rfl⟩;rcases b.cases with⟨rfl,f⟩|⟨rfl,h⟩
   .have i:=Kz f;clear f b n p;go_wp2
    go_ret
    obtain⟨j,d,J⟩:=i.o;exact⟨lF (jV (.inr (.inr ⟨j,d,J⟩))).symm,K_.refl _⟩
   .have q:Hid (pF give l):=⟨E5,E5,λj d=>by
     apply Decidable.byContradiction;intro T;exact h ⟨j,d,by unfold Gg;omega⟩⟩
    clear h b n p;have K:(Lib.join (texts l) [44]).length<=100*201:=by
     have:=JS (texts l) 200 (λU A=>by
      simp only[texts,MH] at A;obtain⟨W,L,rfl⟩:=A;obtain⟨j,d,rfl⟩:=Ms L;have:=q.o.2.2 j d;simpa[List.getD,d] using this)
     rw[jJ] at this;omega
    go_wp2_with fail
    refine (Iw _ a k l G E5 E5 x).mono ?_;rintro e X ⟨⟨m,rfl,r⟩,B⟩;have Y:m.size<=20100:=by have:=congrArg List.length r;simp at this;omega
    have C:Hid ((give++ ⟨#[40]⟩++m++ ⟨#[41]⟩).data.toList=jI give.data.toList (texts l)):=by
     show _=_;rw[fM,fM,fM,r];simp[jI]
    clear r K;have Z:(give++ ⟨#[40]⟩++m++ ⟨#[41]⟩:NG).size<=30000:=by
     have M:(⟨#[40]⟩:NG).size=1:=rfl;have N:(⟨#[41]⟩:NG).size=1:=rfl;simp only[ByteArray.size_append,M,N];omega
    go_wp2_with fail
    generalize (give++ ⟨#[40]⟩++m++ ⟨#[41]⟩:NG)=c at *;refine (rF _ c).mono ?_;rintro e w3 ⟨b,rfl⟩;rcases b.cases with⟨rfl,f⟩|⟨rfl,h⟩
    .have i:Hid (200<c.size):=f;clear f b;go_wp2_with fail
     refine (JC _ c F5).mono ?_;rintro e w4 ⟨rfl,O⟩;have D:=K_.trans B O;have a0:=rT c.data.toList;have E:Hid (mY give l= ⟨(35 :: jA 16 (sumOf c.data.toList).toNat).toArray⟩):=zH q.o C.o i.o;generalize sumOf c.data.toList=V at *;obtain⟨v,rfl⟩:∃v:Nat,V=v:=⟨V.toNat,E5⟩;rw[Int.toNat_natCast] at E;go_wp2_with fail
     refine (DW _ v E5 (H.kept D)).mono ?_;rintro e w5 ⟨⟨P,rfl,s⟩,Q⟩;have a1:P.size=16:=by have:=congrArg List.length s;rw[iC] at this;simpa using this
     have R:=Kz s;clear s;go_wp2
     go_ret
     exact⟨lF (by rw[E.o];apply Ad;rw[fM,R.o];rfl),K_.trans D Q⟩
    .have i:Hid (¬200<c.size):=h;clear h b;go_wp2
     go_ret
     exact⟨lF (xw q.o C.o (by have:=i.o;omega)).symm,B⟩
