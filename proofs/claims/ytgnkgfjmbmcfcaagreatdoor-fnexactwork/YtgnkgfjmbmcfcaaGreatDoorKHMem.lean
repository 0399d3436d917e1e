import Derived.Test.YtgnkgfjmbmcfcaaGreatDoorKBData
namespace Go.Proofs.YtgnkgfjmbmcfcaaGreatDoor
open Go.RowKit Go.Proofs.Tryz
section
variable {α : Type} {cells : α -> List QA} {sz : Nat}
def bK(cells:α->List QA)(f:Nat->α):Nat->List QA
 | 0=>[]
 | n+1=>bK cells f n++cells (f n)
theorem iP(a:∀x,(cells x).length=sz)(f:Nat->α):∀n,(bK cells f n).length=n*sz
 | 0=>by simp[bK]
 | n+1=>by simp[bK,iP a f n,a,Nat.succ_mul]
theorem gQ{f g:Nat->α}:∀{n:Nat},(∀i,i<n->f i=g i)->bK cells f n=bK cells g n
 | 0,_=>rfl
 | n+1,h=>by simp only[bK];rw[gQ (fun i a=>h i (by omega)),h n (by omega)]
theorem qy(a:∀x,(cells x).length=sz)(f:Nat->α):∀{n i j:Nat},i<n->j<sz->(bK cells f n)[i*sz+j]? = (cells (f i))[j]?
 | n+1,i,j,hi,hj=>by
  have b:=iP a f n;simp only[bK];by_cases e:i<n
  ·have:i*sz+j<n*sz:=by
    have:=Nat.mul_le_mul_right sz (show i+1<=n by omega);rw[Nat.succ_mul] at this;omega
   rw[PY (by omega)];exact qy a f e hj
  ·obtain rfl:i=n:=by omega
   rw[PZ (by omega),b]
   congr 1
   omega
theorem Gx(a:∀x,(cells x).length=sz)(f:Nat->α)(n:Nat):(bK cells f (n+1)).take (n*sz)=bK cells f n:=by
 simp only[bK];rw[<-iP a f n,List.take_left]
def kI(xs:List QA)(o:Nat)(cs:List QA):List QA:=xs.take o++cs++xs.drop (o+cs.length)
theorem Ev(a:List QA){o:Nat}(b:o<a.length)(c:QA)(cs:List QA):kI (a.set o c) (o+1) cs=kI a o (c :: cs):=by
 unfold kI;rw[List.drop_set,Qg (by omega),Pb (by simpa using b)];rw[List.take_set];have d:(a.take o).set o c=a.take o:=List.set_eq_of_length_le (by rw[Pt];omega);rw[d,List.getElem_set_self];simp only[PP,List.append_assoc,List.cons_append,List.nil_append];rw[show o+1+cs.length=o+ (cs.length+1) by omega]
theorem CY{a b:List QA}{o:Nat}{cs:List QA}(h:o+cs.length<=a.length):kI (a++b) o cs=kI a o cs++b:=by
 unfold kI;rw[List.take_append_of_le_length (by omega),List.drop_append_of_le_length h];simp
theorem Bl{a b:List QA}{cs:List QA}(h:cs.length=b.length):kI (a++b) a.length cs=a++cs:=by
 unfold kI;rw[List.take_left,List.drop_eq_nil_of_le (by rw[PM];omega)];simp
theorem uL(a:∀x,(cells x).length=sz)(f:Nat->α)(y:α):∀{n i:Nat},i<n->kI (bK cells f n) (i*sz) (cells y)=bK cells (fun k=>if k=i then y else f k) n
 | n+1,i,hi=>by
  have b:=iP a f n;simp only[bK];by_cases e:i<n
  ·have c:=Nat.mul_le_mul_right sz (show i+1<=n by omega);rw[Nat.succ_mul] at c;rw[CY (by rw[a,b];exact c),uL a f y e,Qh (by omega)]
  ·obtain rfl:i=n:=by omega
   rw[<-b,Bl (by rw[a,a]),Qg rfl];rw[gQ (f:=fun k=>if k=i then y else f k) (g:=f) (fun k d=>by rw[Qh (by omega)])]
end
variable {cap : Nat}
theorem xV{B b g n:Nat}{e:TypeId}:∀(cs:List QA) (o:Nat) {w:Qy} {xs:List QA},w.ownsRow B e b (.slice (some ⟨g,0,none⟩) n cap) n xs->o+cs.length<=xs.length->(w.setCells g o cs).ownsRow B e b (.slice (some ⟨g,0,none⟩) n cap) n (kI xs o cs)
 | [],o,w,xs,h,_=>by
  have:kI xs o []=xs:=by unfold kI;simp
  rw[this];exact h
 | c :: cs,o,w,xs,h,hl=>by
  simp only[PP] at hl;have:=xV cs (o+1) (h.stored o c).1 (by rw[Qd];omega);rw[Ev xs (by omega)] at this;exact this
theorem But.setCells{S:Nat->Prop}{w:Qy}{g:Nat}(a:S g):∀(cs:List QA) (o:Nat) {w':Qy},But S w w'->But S w (w'.setCells g o cs)
 | [],_,_,h=>h
 | _ :: cs,o,_,h=>But.setCells a cs (o+1) (h.set (p:=⟨g,o,none⟩) a _)
structure aK {α:Type} (w:Qy) (b o B:Nat) (e:TypeId) (sz:Nat) (cells:α->List QA) (fn:QA) (f:Nat->α) (n:Nat) (a:Qx) (cap:Nat):Prop where
 c0:w.cell? ⟨b,o,none⟩=some (.slice a n cap)
 c1:w.cell? ⟨b,o+1,none⟩=some fn
 row:w.ownsRow B e sz (.slice a n cap) n (bK cells f n)
 lt:b<w.heap.size
 blk:∃t m,aL w b t m/\o+1<m
 ne:(Value.slice a n cap).ownBlock≠some b
 one:∀x,∀u∈cells x,u.oneCell'=true
 sz:∀x,(cells x).length=sz
section
variable {α : Type} {w w' : Qy} {b o B : Nat} {e : TypeId} {sz : Nat} {cells : α -> List QA} {fn : QA} {f : Nat -> α} {n : Nat} {a : Qx} {cap g : Nat}
theorem aK.pos(h:aK w b o B e sz cells fn f n a cap)(l:0<n):∃g,a=some ⟨g,0,none⟩/\g<w.heap.size/\b≠g/\n<=cap:=by
 rcases h.row.2 with⟨_,c⟩|⟨g,m,p,c,_,d,i,_⟩
 ·omega
 ·injection c with j q k;subst j k;exact⟨g,rfl,aV d,fun x=>h.ne (by rw[x];rfl),i⟩
theorem aK.at(h:aK w b o B e sz cells fn f n (some ⟨g,0,none⟩) cap){i j:Nat}(hi:i<n)(c:j<sz):w.cell? ⟨g,i*sz+j,none⟩= (cells (f i))[j]? :=by
 have d:i*sz+j<n*sz:=by
  have:=Nat.mul_le_mul_right sz (show i+1<=n by omega);rw[Nat.succ_mul] at this;omega
 rw[h.row.cellAt _ d];exact qy h.sz f hi c
theorem aK.but{S:Nat->Prop}(h:aK w b o B e sz cells fn f n a cap)(k:But S w w')(d:¬S b)(g:∀x,(Value.slice a n cap).ownBlock=some x->¬S x):aK w' b o B e sz cells fn f n a cap:=
 ⟨(k.cell h.lt d).trans h.c0,(k.cell h.lt d).trans h.c1,k.owns h.row g,OV h.lt k.size,let ⟨t,m,hr,hm⟩:=h.blk;⟨t,m,k.row hr d,hm⟩,h.ne,h.one,h.sz⟩
theorem aK.set(h:aK w b o B e sz cells fn f n (some ⟨g,0,none⟩) cap){i:Nat}(hi:i<n)(y:α):aK (w.setCells g (i*sz) (cells y)) b o B e sz cells fn (fun k=>if k=i then y else f k) n (some ⟨g,0,none⟩) cap:=by
 have d:b≠g:=fun x=>h.ne (by rw[x];rfl)
 have l:=iP h.sz f n;have a:=But.setCells (S:=fun x=>x=g) (g:=g) (w:=w) rfl (cells y) (i*sz) (But.aj (K_.refl w));have j:=Nat.mul_le_mul_right sz (show i+1<=n by omega);rw[Nat.succ_mul] at j;have c:=xV (cells y) (i*sz) h.row (by rw[h.sz,l];exact j);rw[uL h.sz f y hi] at c;exact⟨(a.cell h.lt d).trans h.c0,(a.cell h.lt d).trans h.c1,c,OV h.lt a.size,let ⟨t,m,c,hm⟩:=h.blk;⟨t,m,a.row c d,hm⟩,h.ne,h.one,h.sz⟩
theorem NI{f:Nat->α}(i j:Nat):(fun k=>if k=j then f i else (fun k=>if k=i then f j else f k) k)=swp f j i:=by
 funext k
 unfold swp;by_cases a:k=j
 ·simp[a]
 ·simp[a]
theorem KI(f:Nat->α)(i j:Nat):swp f i j=swp f j i:=by
 funext k
 unfold swp;by_cases a:k=i <;> by_cases b:k=j
 ·rw[Qg a,Qg b,<-a,<-b]
 ·rw[Qg a,Qh b,Qg a]
 ·rw[Qh a,Qg b,Qg b]
 ·rw[Qh a,Qh b,Qh b,Qh a]
theorem aK.swap(h:aK w b o B e sz cells fn f n (some ⟨g,0,none⟩) cap){i j:Nat}(hi:i<n)(c:j<n):aK ((w.setCells g (i*sz) (cells (f j))).setCells g (j*sz) (cells (f i))) b o B e sz cells fn (swp f i j) n (some ⟨g,0,none⟩) cap:=by
 have:=(h.set hi (f j)).set c (f i);rw[NI i j,KI] at this;exact this
theorem aK.kept(h:aK w b o B e sz cells fn f n a cap)(k:K_ w w'):aK w' b o B e sz cells fn f n a cap:=h.but (S:=fun _=>False) (.aj k) id (fun _ _=>id)
theorem aK.told{d:Qx}{c g:Nat}{l:Nat->α}(h:aK w b o B e sz cells fn f n a cap)(k:But (fun x=>(Value.slice a n cap).ownBlock=some x) w w')(y:w'.ownsRow B e sz (.slice d c g) c (bK cells l c))(q:(Value.slice d c g).ownBlock≠some b):
  aK (w'.setCell ⟨b,o,none⟩ (.slice d c g)) b o B e sz cells fn l c d g/\But (fun x=>x=b\/(Value.slice a n cap).ownBlock=some x) w (w'.setCell ⟨b,o,none⟩ (.slice d c g))/\(∀i,i≠o->(w'.setCell ⟨b,o,none⟩ (.slice d c g)).cell? ⟨b,i,none⟩=w.cell? ⟨b,i,none⟩)/\∀t m,aL w b t m->aL (w'.setCell ⟨b,o,none⟩ (.slice d c g)) b t m:=by
 obtain⟨t,m,j,z⟩:=h.blk;have r:=k.row j h.ne;have A:∀i,w'.cell? ⟨b,i,none⟩=w.cell? ⟨b,i,none⟩:=fun i=>k.cell h.lt h.ne
 have s:∀i,i≠o->(w'.setCell ⟨b,o,none⟩ (.slice d c g)).cell? ⟨b,i,none⟩=w.cell? ⟨b,i,none⟩:=fun i E=>by
  rw[Pq _ _ _ _ (by intro e;injection e with _ F _;omega)];exact A i
 have v:But (fun x=>x=b\/(Value.slice a n cap).ownBlock=some x) w (w'.setCell ⟨b,o,none⟩ (.slice d c g)):=(k.mono (fun _ _ h=>.inr h)).set (p:=⟨b,o,none⟩) (.inl rfl) _;have C:But (fun x=>x=b) w' (w'.setCell ⟨b,o,none⟩ (.slice d c g)):=(But.aj (K_.refl w')).set (S:=fun x=>x=b) (p:=⟨b,o,none⟩) rfl _;exact⟨⟨OY w' b o [.slice d c g] (r.row.there (o:=o) (m:=1) (by omega)) 0 _ rfl,(s (o+1) (by omega)).trans h.c1,C.owns y (fun x D e=>q (by rw[D,e])),OV h.lt v.size,⟨t,m,r.set _,z⟩,q,h.one,h.sz⟩,v,s,fun _ _ j=>(k.row j h.ne).set _⟩
end
theorem uI{α:Type}{w:Qy}{B b g n:Nat}{e:TypeId}{cells:α->List QA}{f:Nat->α}(h:∀x,(cells x).length=b)(i:w.ownsRow B e b (.slice (some ⟨g,0,none⟩) (n+1) cap) (n+1) (bK cells f (n+1))):w.ownsRow B e b (.slice (some ⟨g,0,none⟩) n cap) n (bK cells f n):=by
 refine⟨iP h f n, ?_⟩;rcases i.2 with⟨c,_⟩|⟨s,t,j,c,k,l,v,m,p,q⟩
 ·cases c
 ·injection c with a y r;injection a with a;injection a with a;subst a r;refine .inr ⟨g,cap,j,rfl,k,l,by omega,m,p, ?_⟩;rw[<-Gx h f n,<-q,List.take_take,Nat.min_eq_left (Nat.mul_le_mul_right b (by omega))]
structure ToH (w w':Qy) (b o:Nat) (a:Qx) (n cap:Nat) (a':Qx) (n' cap':Nat):Prop where
 but:But (fun x=>x=b\/(Value.slice a n cap).ownBlock=some x) w w'
 oth:∀i,i≠o->w'.cell? ⟨b,i,none⟩=w.cell? ⟨b,i,none⟩
 row:∀t m,aL w b t m->aL w' b t m
 new:∀x,(Value.slice a' n' cap').ownBlock=some x->(Value.slice a n cap).ownBlock=some x\/w.heap.size<=x
theorem ToH.next{w w1 w2:Qy}{b o n c d:Nat}{a e:Qx}(h:ToH w w1 b o a n cap e c d)(k:But (fun x=>(Value.slice e c d).ownBlock=some x) w1 w2)(l:b<w.heap.size)(g:(Value.slice e c d).ownBlock≠some b):ToH w w2 b o a n cap e c d:=
 ⟨⟨k.os.trans h.but.os,k.tape.trans h.but.tape,k.output.trans h.but.output,OX h.but.size k.size,fun x i j=>(k.block x (OV i h.but.size) (fun f=>by
   rcases h.new x f with f|f
   ·exact j (.inr f)
   ·omega)).trans (h.but.block x i j)⟩,fun m p=>(k.cell (OV l h.but.size) g).trans (h.oth m p),fun t q r=>k.row (h.row t q r) g,h.new⟩
def nK{α:Type}(ah:α->α->Bool)(f:Nat->α)(n k q p:Nat):Prop:=(q=2*k+1/\p=k)\/(q=2*k+2/\p=gJ ah f n k)\/(q=2*k+3/\p=dG ah f n k)
def mF{α:Type}(fid:Nat)(val:α->QA)(ah:α->α->Bool)(Ok:α->Qy->Prop):Prop:=
 ∀x y u,Ok x u->Ok y u->Calls prog fid #[val x,val y] u fun e u'=>e= .returned (.bool (ah x y))/\K_ u u'
