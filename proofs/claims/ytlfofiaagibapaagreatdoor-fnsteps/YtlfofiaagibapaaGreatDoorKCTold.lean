import Derived.Test.YtlfofiaagibapaaGreatDoorKBRangeC
import Derived.Test.YtlfofiaagibapaaGreatDoorKCCirc
import Derived.Test.YtlfofiaagibapaaGreatDoorKIter
set_option maxRecDepth 100000
set_option maxHeartbeats 25600000
namespace Go.Proofs.YtlfofiaagibapaaGreatDoor
open Go.RowKit Go.Proofs.Tryz
theorem Tryz.jF :(prog.info? 48).map (·.size)=some 7:=F4
theorem Im(w:NN)(r:Q_)(a f:NM)(cap m:Nat)(q:r.texts.length<=1048576)(s:Strs w a r.texts)(t:Strs w f r.texts):Calls prog 30 #[.agg #[.string r.name,.bool r.over,.bool r.fail,.string r.text,.a r.at',.a r.Zq,.slice a r.texts.length cap],.agg #[.string r.name,.bool r.over,.bool r.fail,.string r.text,.a r.at',.a r.Zq,.slice f r.texts.length m]] w λe w'=>e=.returned (.bool true)/\K_ w w':=by
 let⟨h,over,fail,i,j,k,texts⟩:=r;dsimp only at *;let⟨l,d⟩:=aj ((w.alloc (.cells #[.string h,.bool over,.bool fail,.string i,.a j,.a k,.slice a texts.length cap] 48)).alloc (.cells #[.string h,.bool over,.bool fail,.string i,.a j,.a k,.slice f texts.length m] 48));have n:K_ w l:=by rw[d];exact (ah _ _).alloc _
 have p:=X_ w #[.string h,.bool over,.bool fail,.string i,.a j,.a k,.slice a texts.length cap] 48;have c:=K_.range (w':=l) (by rw[d];exact ah _ _) E9 p;have b:=X_ (w.alloc (.cells #[.string h,.bool over,.bool fail,.string i,.a j,.a k,.slice a texts.length cap] 48)) #[.string h,.bool over,.bool fail,.string i,.a j,.a k,.slice f texts.length m] 48;rw[<-d,MZ] at b;have x:w.heap.size+1<l.heap.size:=by rw[d];simp
 have y:w.heap.size<l.heap.size:=E5;have z:=c 0 _ rfl;have A:=c 1 _ rfl;have B:=c 2 _ rfl;have C:=c 3 _ rfl;have D:=c 4 _ rfl;have E:=c 5 _ rfl;have F:=c 6 _ rfl;have G:=b 0 _ rfl;have H:=b 1 _ rfl;have I:=b 2 _ rfl;have J:=b 3 _ rfl;have K:=b 4 _ rfl;have L:=b 5 _ rfl;have M:=b 6 _ rfl;go_enter func30,ntmps30
 go_upto_region 1 with fail
 rw[<-d];clear d;go_wp2_with fail
 refine (nU l a f cap m texts q (s.kept n) (t.kept n)).mono ?_;rintro e N ⟨rfl,v⟩;go_wp2
 go_ret
 exact⟨rfl,n.trans v⟩
def KU(sl:List Q_)(n:NL)(u0:NN)(e:Ending):Prop:=∃(r:Q_)(xa:NM)(xc:Nat)(b:Bool),e=.returned (.tuple #[.agg #[.string r.name,.bool r.over,.bool r.fail,.string r.text,.a r.at',.a r.Zq,.slice xa r.texts.length xc],.bool b])/\(b=true->Qq sl n=some r/\Strs u0 xa r.texts)/\(b=false->Qq sl n=none)
theorem wL(w u0:NN)(m:NM)(rn rc:Nat)(d:NM)(dc:Nat)(l:List Q_)(n:NL)(Q:l.length<=1048576)(F:K_ u0 w)(M:bN u0 d l):Calls prog 10 #[.agg #[.slice m rn rc,.slice d l.length dc],.string n] w λe w'=>KU l n u0 e/\K_ w w':=by
 let⟨c,f⟩:=aj ((w.alloc (.cells #[.slice m rn rc,.slice d l.length dc] 43)).alloc (.cells #[.string ⟨#[]⟩,.bool false,.bool false,.string ⟨#[]⟩,.a 0,.a 0,M3] 48));have G:K_ w c:=by rw[f];exact (ah _ _).alloc _
 have H:Hid (ay c (w.heap.size+1) 48 7):=by
  have I:=ay.made (w.alloc (.cells #[.slice m rn rc,.slice d l.length dc] 43)) #[.string ⟨#[]⟩,.bool false,.bool false,.string ⟨#[]⟩,.a 0,.a 0,M3] 48;simp only[MZ] at I;rw[f];exact I
 have R:c.cell? ⟨w.heap.size,1,none⟩=some (.slice d l.length dc):=by rw[f,K_.cell (w:=w.alloc (.cells #[.slice m rn rc,.slice d l.length dc] 43)) (ah _ _) E9];exact X_ w _ _ 1 _ rfl
 have S:w.heap.size+2<=c.heap.size:=by rw[f];simp
 have T:w.heap.size<c.heap.size:=E5;have p:=Kz G;have q:Hid (c.there (w.heap.size+1) 0 7):=H.o.row.there E5;have J:Hid ((prog.info? 48).map (·.size)=some 7):=Tryz.jF;have U:=H.o.lt;go_enter func10,ntmps10
 go_upto_region 1 with fail
 rw[<-f];clear f;go_wp2
 go_loopw [6] (λr wr=>∃k:Nat,k<=l.length/\r=.a (k:Int)/\Hid (∀j,j<k->(l.getD j Q_.zero).name≠n)/\wr=c) (λr _=>l.length-(intOf r).toNat)
 case atStart=>exact⟨0,Ml _,rfl,Kz λj K=>E5,rfl⟩
 case round=>
  obtain⟨k,V,rfl,s,rfl⟩:=hrel;by_cases t:k<l.length
  .obtain⟨b,o,h,i,rfl,v,L,x,_⟩:=M k t;have a:=(F.trans p.o).range v L;have W:=Mk v (F.trans p.o).size;let⟨y,z⟩:=aj (l.getD k Q_.zero);rw[<-z] at a x;have N:=Kz x;have O:=a 0 _ rfl;have X:=a 1 _ rfl;have Y:=a 2 _ rfl;have Z:=a 3 _ rfl;have q4:=a 4 _ rfl;have q5:=a 5 _ rfl;have q6:=a 6 _ rfl;rw[Ng] at O;have A:=Kz z;have a0:(k:Int)<(l.length:Int):=E5;have B:=Kz (all_oneCell_toArray (cs:=y.cells h i) (by simp[Q_.cells,Value.oneCell']));clear z;cases C:(y.name.toList == n.toList)
   .go_wp2
    go_roundw
    case rel=>
     refine⟨k+1,E5,F3,Kz λj K=>?_,trivial⟩;by_cases e:j=k
     .rw[e,<-A.o];intro P;rw[P] at C;simp at C
     .exact s.o j E5
    case measure=>simp[intOf];omega
   .have D:Hid (Qq l n=some y):=by
     show _=_;rw[A.o];exact Aw t (by rw[<-A.o];exact Ba C) s.o
    go_wp2_with (refine wpList_store_mid rfl 48 _ _ rfl (w.heap.size+1) 0 #[.string y.name,.bool y.over,.bool y.fail,.string y.text,.a y.at',.a y.Zq,.slice h y.texts.length i] rfl rfl q.o J.o B.o ?_)
    have E:=Mo wr (w.heap.size+1) 0 (y.cells h i) q.o;exact bZ (y.cells h i) _ (.bool true) results10 rfl E underlying48 rfl Tryz.jF rfl rfl ⟨⟨y,h,i,true,rfl,λ_=>⟨D.o,N.o⟩,λe=>by cases e⟩,aP (g:=w.heap.size+1) E5 (y.cells h i) 0 p.o⟩
  .have a1:¬((k:Int)<(l.length:Int)):=E5;have D:Hid (Qq l n=none):=vT λj K=>s.o j E5;have B:=Kz (all_oneCell_toArray (cs:=Q_.zero.cells none 0) (by simp[Q_.cells,Value.oneCell']));go_wp2_with (refine wpList_store_mid rfl 48 _ _ rfl (w.heap.size+1) 0 #[.string ⟨#[]⟩,.bool false,.bool false,.string ⟨#[]⟩,.a 0,.a 0,M3] rfl rfl q.o J.o B.o ?_)
   have E:=Mo wr (w.heap.size+1) 0 (Q_.zero.cells none 0) q.o;exact bZ (Q_.zero.cells none 0) _ (.bool false) results10 rfl E underlying48 rfl Tryz.jF rfl rfl ⟨⟨Q_.zero,none,0,false,rfl,(λe=>by cases e),λ_=>D.o⟩,aP (g:=w.heap.size+1) E5 (Q_.zero.cells none 0) 0 p.o⟩
structure AgM (w0 wr:NN)(rb zb ab:Nat)(cost:Int)(sa:NM)(sn sc:Nat)(r:Q_)(xa:NM)(xc:Nat)(qv:NP)(L:List NL):Prop where
 kw:K_ w0 wr
 box:gV wr rb r xa xc
 res:ay wr zb 48 7
 act:ay wr ab 31 2
 a0:wr.cell? ⟨ab,0,none⟩=some (.a cost)
 a1:wr.cell? ⟨ab,1,none⟩=some (.slice sa sn sc)
 rl:w0.heap.size<=rb
 zl:w0.heap.size<=zb
 al:w0.heap.size<=ab
 rz:rb≠zb
 txt:wr.ownsRow w0.heap.size 9 1 (.slice xa r.texts.length xc) r.texts.length (r.texts.map Value.string)
 ask:wr.ownsRow w0.heap.size 9 1 qv L.length (L.map Value.string)
 sep:∀x,(Value.slice xa r.texts.length xc).ownBlock=some x->qv.ownBlock≠some x
section
variable {w0 wr w':NN}{rb zb ab:Nat}{cost:Int}{sa:NM}{sn sc:Nat}{r r':Q_}{xa xa':NM}{xc xc':Nat}{qv qv':NP}{L:List NL}
theorem AgM.kept(h:AgM w0 wr rb zb ab cost sa sn sc r xa xc qv L)(k:K_ wr w'):AgM w0 w' rb zb ab cost sa sn sc r xa xc qv L:=⟨h.kw.trans k,h.box.kept k,h.res.kept k,h.act.kept k,(k.cell h.act.lt).trans h.a0,(k.cell h.act.lt).trans h.a1,h.rl,h.zl,h.al,h.rz,au h.txt k,au h.ask k,h.sep⟩
theorem AgM.ar(h:AgM w0 wr rb zb ab cost sa sn sc r xa xc qv L):ab≠rb:=aU h.act.type h.box.row.type E8
theorem AgM.put(h:AgM w0 wr rb zb ab cost sa sn sc r xa xc qv L){o:Nat}{v:NP}(f:o<7)(e:r'.cells xa xc= (r.cells xa xc).set o v)(c:r'.texts=r.texts):AgM w0 (wr.setCell ⟨rb,o,none⟩ v) rb zb ab cost sa sn sc r' xa xc qv L:=by
 have a:But (λb=>b=rb) wr (wr.setCell ⟨rb,o,none⟩ v):=But.set (S:=λb=>b=rb) (But.ax (K_.refl _)) (p:=⟨rb,o,none⟩) rfl v;have d:∀{b:Nat},bA wr b 9->¬b=rb:=λi e=>aU i h.box.row.type E8 e
 refine⟨Below.setCell h.kw (p:=⟨rb,o,none⟩) h.rl v,h.box.put f e,a.row h.res λe=>h.rz e.symm,a.row h.act h.ar,(a.cell h.act.lt h.ar).trans h.a0,(a.cell h.act.lt h.ar).trans h.a1,h.rl,h.zl,h.al,h.rz,?_,a.owns h.ask λb e=>d (Y_ h.ask e),by rw[c];exact h.sep⟩;rw[c];exact a.owns h.txt λb e=>d (Y_ h.txt e)
theorem AgM.texts(h:AgM w0 wr rb zb ab cost sa sn sc r xa xc qv L){w1:NN}{l:List NL}(m:w1.ownsRow w0.heap.size 9 1 (.slice xa' (r.texts.length+l.length) xc') (r.texts.length+l.length) (r.texts.map Value.string++l.map Value.string))(v:wr.grownBy w1 (Value.slice xa r.texts.length xc).ownBlock)(w:∀g,(Value.slice xa' (r.texts.length+l.length) xc').ownBlock=some g->(Value.slice xa r.texts.length xc).ownBlock=some g\/wr.heap.size<=g):AgM w0 (w1.setCell ⟨rb,6,none⟩ (.slice xa' (r.texts.length+l.length) xc')) rb zb ab cost sa sn sc {r with texts:=r.texts++l} xa' xc' qv L:=by
 have a:But (λb=>(Value.slice xa r.texts.length xc).ownBlock=some b) wr w1:=But.aI v λb e=>e;have c:∀{b:Nat}{u:TypeId},bA wr b u->u≠9->¬(Value.slice xa r.texts.length xc).ownBlock=some b:=λf y e=>aU f (Y_ h.txt e) y rfl
 have i:=a.row h.box.row (c h.box.row.type E8);have z:w1.rangeAt rb 0 (r.cells xa xc):=a.range h.box.row (c h.box.row.type E8) h.box.rng;have A:=a.row h.res (c h.res.type E8);have j:=a.row h.act (c h.act.type E8);have B:=(a.cell h.act.lt (c h.act.type E8) (o:=0)).trans h.a0;have C:=(a.cell h.act.lt (c h.act.type E8) (o:=1)).trans h.a1;have n:=a.owns h.ask λb e k=>h.sep b k e;have D:K_ w0 w1:=a.kept h.kw λb e=>(h.txt.lt b e).1;have d:But (λb=>b=rb) w1 (w1.setCell ⟨rb,6,none⟩ (.slice xa' (r.texts.length+l.length) xc')):=But.set (S:=λb=>b=rb) (But.ax (K_.refl _)) (p:=⟨rb,6,none⟩) rfl _;have q:∀{b:Nat},bA w1 b 9->¬b=rb:=λf e=>aU f i.type E8 e
 have s:(r.texts++l).length=r.texts.length+l.length:=M_;refine⟨Below.setCell D (p:=⟨rb,6,none⟩) h.rl _,⟨i.set _,?_⟩,d.row A λe=>h.rz e.symm,d.row j h.ar,(d.cell j.lt h.ar).trans B,(d.cell j.lt h.ar).trans C,h.rl,h.zl,h.al,h.rz,?_,d.owns n λb e=>q (Y_ n e),λx E t=>?_⟩
 .have k:Q_.cells {r with texts:=r.texts++l} xa' xc'= (r.cells xa xc).set 6 (.slice xa' (r.texts.length+l.length) xc'):=by
   unfold Q_.cells;simp
  rw[k];exact nu z i.row E5 _
 .show World.ownsRow _ _ _ _ (.slice xa' (r.texts++l).length xc') (r.texts++l).length ((r.texts++l).map Value.string);rw[s,ND];exact d.owns m (λb e=>q (Y_ m e))
 .have F:(Value.slice xa' (r.texts.length+l.length) xc').ownBlock=some x:=by rw[<-s];exact E
  rcases w x F with g|g
  .exact h.sep x g t
  .have:=(h.ask.lt x t).2;omega
theorem AgM.asks(h:AgM w0 wr rb zb ab cost sa sn sc r xa xc qv L){w1:NN}{l:List NL}(j:w1.ownsRow w0.heap.size 9 1 qv' (L.length+l.length) (L.map Value.string++l.map Value.string))(k:wr.grownBy w1 qv.ownBlock)(m:∀g,qv'.ownBlock=some g->qv.ownBlock=some g\/wr.heap.size<=g):AgM w0 w1 rb zb ab cost sa sn sc r xa xc qv' (L++l):=by
 have a:But (λb=>qv.ownBlock=some b) wr w1:=But.aI k λb e=>e;have c:∀{b:Nat}{u:TypeId},bA wr b u->u≠9->¬qv.ownBlock=some b:=λn p e=>aU n (Y_ h.ask e) p rfl
 have d:=c h.act.type E8;have f:=c h.box.row.type E8;refine⟨a.kept h.kw λb e=>(h.ask.lt b e).1,⟨a.row h.box.row f,a.range h.box.row f h.box.rng⟩,a.row h.res (c h.res.type E8),a.row h.act d,(a.cell h.act.lt d).trans h.a0,(a.cell h.act.lt d).trans h.a1,h.rl,h.zl,h.al,h.rz,a.owns h.txt λb e q=>h.sep b e q,?_,λx i s=>?_⟩
 .rw[M_,ND];exact j
 .rcases m x s with g|g
  .exact h.sep x i g
  .have:=(h.txt.lt x i).2;omega
end
def zL(W:dC)(σ:Env)(name:NL)(w':NN)(e:Ending):Prop:=∃(k:Nat)(xa:NM)(xc:Nat)(qa:NM)(qc:Nat),e=.returned (.tuple #[.agg ((aJ W σ name k).1.cells xa xc).toArray,.slice qa (aJ W σ name k).2.length qc])/\(∀j,j<k->aS W σ (aJ W σ name j).1)/\¬aS W σ (aJ W σ name k).1/\(eX w' 9 xa (aJ W σ name k).1.texts/\(xa=none->xc=0)/\eX w' 9 qa (aJ W σ name k).2)/\Strs w' qa (aJ W σ name k).2
variable {σ:Env}{Kq:List Qz}
theorem lZ(a:bH (Kk Kq))(b:dz Kq σ){n:NL}(c:(Kk Kq n).isSome=true):∀{k:Nat},(∀j,j<k->aS (Kk Kq) σ (aJ (Kk Kq) σ n j).1)->(aJ (Kk Kq) σ n k).1.Good Kq
 |0,_=>gP a c
 |k+1,h=>dU a b (lZ a b c λj d=>h j E5) (h k E5)
theorem B_(d:bH (Kk Kq)){r:Q_}(k:dz Kq σ)(l:r.Good Kq)(f:aS (Kk Kq) σ r):(Xx (Kk Kq) σ r).2.length<=5:=by
 let⟨A,b,m,n⟩:=(dU d k l f).act;rw[dx] at b;have p:=(iw (d _ _ b).1 m n).1;by_cases a:(Xx (Kk Kq) σ r).2=[]
 .rw[a];simp
 .have e:(Xx (Kk Kq) σ r).2= (stepOf A (Xx (Kk Kq) σ r).1.at').asks:=by
   unfold Xx at a⊢;rw[b] at a⊢;simp only at a⊢;have ar:∀q:Q_,(ek A q).2= (stepOf A (ek A q).1.at').asks:=λq=>by
    unfold ek;simp only
    split<;>rfl
   by_cases c:r.Zq=0
   .rw[Nz c];exact ar _
   .rw[NA c] at a⊢;rcases f.2 with e|⟨v,s,h,t⟩
    .exact NB e c
    .rw[b] at h;cases h;rw[t] at a⊢;simp only at a⊢;by_cases i:r.Zq=20
     .rw[Nz i] at a;exact NB rfl a
     .rw[NA i] at a⊢;by_cases j:(eT (stepOf A r.at') s).over=true
      .rw[Nz j] at a;exact NB rfl a
      .rw[NA j];exact ar _
  rw[e];exact p
theorem rM(a:bH (Kk Kq))(b:dz Kq σ){n:NL}(c:(Kk Kq n).isSome=true):∀{k:Nat},(∀j,j<k->aS (Kk Kq) σ (aJ (Kk Kq) σ n j).1)->(aJ (Kk Kq) σ n k).2.length<=5*k
 |0,_=>Mj _
 |k+1,h=>by
  have e:=rM a b c (k:=k) λj d=>h j E5;have f:=B_ a b (lZ a b c λj d=>h j E5) (h k E5);show ((aJ (Kk Kq) σ n k).2++(Xx (Kk Kq) σ (aJ (Kk Kq) σ n k).1).2).length<=5*(k+1);rw[M_];omega
theorem Bj(b:bH (Kk Kq))(c:dz Kq σ){n:NL}(a:(Kk Kq n).isSome=true){k:Nat}(h:∀j,j<k->aS (Kk Kq) σ (aJ (Kk Kq) σ n j).1):k<=21:=by
 cases k with
 |zero=>omega
 |succ k=>
  have e:=fH a (k:=k) (λj d=>h j E5) (h k E5).1;have f:=(lZ b c a (k:=k) λj d=>h j E5).hi;omega
theorem BX{g:Nat}:∀(vs:List NP)(o:Nat){w u:NN},But (λb=>b=g) w u->But (λb=>b=g) w (u.setCells g o vs)
 |[],_,_,_,h=>h
 |v :: r,o,_,_,h=>by rw[World.setCells];exact BX r (o+1) (h.set (p:=⟨g,o,none⟩) rfl v)
theorem AgM.ends{W:dC}{c:NL}{w0 wr:NN}{rb zb ab:Nat}{cost:Int}{sa:NM}{sn sc:Nat}{r:Q_}{xa:NM}{xc:Nat}{d:NM}{l f:Nat}{L:List NL}{k:Nat}{e:Ending}(h:AgM w0 wr rb zb ab cost sa sn sc r xa xc (.slice d l f) L)(a:aJ W σ c k= (r,L))(s:∀j,j<k->aS W σ (aJ W σ c j).1)(t:¬aS W σ r)(v:e=.returned (.tuple #[.agg (r.cells xa xc).toArray,.slice d l f])):zL W σ c (wr.setCells zb 0 (r.cells xa xc)) e/\K_ w0 (wr.setCells zb 0 (r.cells xa xc)):=by
 have i:But (λb=>b=zb) wr (wr.setCells zb 0 (r.cells xa xc)):=BX _ _ (But.ax (K_.refl _));have m:∀{b:Nat},bA wr b 9->¬b=zb:=λw e=>aU w h.res.type E8 e
 have n:=mi (i.owns h.txt λb e=>m (Y_ h.txt e));have p:=i.owns h.ask λb e=>m (Y_ h.ask e);let⟨z,A,q,x⟩:=bO p;simp only[Nb] at q;obtain⟨rfl,rfl,_⟩:=q;have y:=mi p;refine⟨⟨k,xa,xc,d,f,?_,s,?_,?_,?_⟩,i.kept h.kw λb e=>by rw[e];exact h.zl⟩
 .rw[a];exact v
 .rw[a];exact t
 .rw[a];exact⟨n.1,n.2.1,y.1⟩
 .rw[a];exact x
theorem AgM.start{w wc:NN}{zb ab:Nat}{cost:Int}{sa:NM}{sn sc:Nat}(a:NL)(d:K_ w wc)(h:ay wc zb 48 7)(f:ay wc ab 31 2)(j:wc.cell? ⟨ab,0,none⟩=some (.a cost))(k:wc.cell? ⟨ab,1,none⟩=some (.slice sa sn sc))(l:w.heap.size<=zb)(m:w.heap.size<=ab):AgM w ((wc.alloc (.cells #[.string a,.bool false,.bool false,.string ⟨#[]⟩,.a 0,.a 0,M3] 48)).alloc (.cells #[] 9)) wc.heap.size zb ab cost sa sn sc (Q_.fresh a) none 0 (.b (wc.heap.size+1) 0 0) []:=by
 have b:K_ wc (wc.alloc (.cells #[.string a,.bool false,.bool false,.string ⟨#[]⟩,.a 0,.a 0,M3] 48)):=ah _ _;have c:K_ (wc.alloc (.cells #[.string a,.bool false,.bool false,.string ⟨#[]⟩,.a 0,.a 0,M3] 48)) ((wc.alloc (.cells #[.string a,.bool false,.bool false,.string ⟨#[]⟩,.a 0,.a 0,M3] 48)).alloc (.cells #[] 9)):=ah _ _;have n:gV (wc.alloc (.cells #[.string a,.bool false,.bool false,.string ⟨#[]⟩,.a 0,.a 0,M3] 48)) wc.heap.size (Q_.fresh a) none 0:=⟨ay.made wc _ _,X_ wc _ _⟩;have i:=MQ (base:=w.heap.size) (e:=9) (size:=1) (wc.alloc (.cells #[.string a,.bool false,.bool false,.string ⟨#[]⟩,.a 0,.a 0,M3] 48)) #[] 0 (Mm d.size b.size) (Ml _) rfl;rw[MZ] at i;exact⟨d.trans (b.trans c),n.kept c,h.kept (b.trans c),f.kept (b.trans c),((b.trans c).cell f.lt).trans j,((b.trans c).cell f.lt).trans k,d.size,l,m,by have:=h.lt;omega,Nj _ _ _ _,i,λx p=>by cases p⟩
theorem GK(w:NN)(kb:Nat)(a:NM)(cap:Nat)(Kq:List Qz)(d:NM)(dc:Nat)(l:List Q_)(O:NL)(j5:Kq.length<=1048576)(s2:l.length<=1048576)(h1:jl Kq)(j6:bH (Kk Kq))(n5:∀y∈Kq,y.Fits)(j7:dz Kq (Qq l))(h3:(Kk Kq O).isSome=true)(k:gL w kb a Kq.length cap d l.length dc)(hN:bQ w a Kq)(hS:bN w d l):Calls prog 108 #[.c kb,.string O] w λe w'=>zL (Kk Kq) (Qq l) O w' e/\K_ w w':=by
 let⟨z1,hA⟩:=MK.1 h3;obtain⟨c4,hk,j8,n6,rfl⟩:=fJ hA;let⟨y,hy⟩:=aj (Kq.getD c4 Qz.zero);rw[<-hy] at hA j8;let⟨WB,h4⟩:=aj (w.alloc (.cells #[.string ⟨#[]⟩,.bool false,.bool false,.string ⟨#[]⟩,.a 0,.a 0,M3] 48));have kB:K_ w WB:=by rw[h4];exact ah _ _
 let⟨D,h5⟩:=aj w.heap.size;have n7:ay WB D 48 7:=by rw[h4,h5];exact ay.made w _ _
 have n8:Hid (w.heap.size<=D):=MN h5.symm;obtain⟨nb,nq,f,c5,h6,C,na,nc,rfl,j9⟩:=hN c4 hk;rw[<-hy] at C j9;have k0:nb<WB.heap.size:=Mk h6 kB.size;have n9:=(kB.cell h6).trans (C 1 _ rfl);have o0:=(kB.cell h6).trans (C 2 _ rfl);subst c5;have s3:=Kz k;have k1:=Kz (k.kept kB);have k2:=Kz (hN.kept kB);have⟨s4,s5,k3,o1,o2⟩:=jh hN hS j9 kB n7;have⟨HY,k4⟩:=aH hy hA;have o3:=k1.o.web;have bz:=k1.o.row.lt;have e8:y∈Kq:=by rw[hy];simp[List.getD,hk]
 clear C j9 hy hA kB n7 k hN hS h6;go_enter func108,ntmps108
 go_upto_region 1 with fail
 rw[<-h4,<-h5];clear h4 h5;go_cut [6] from 14 to 27 (λs6 wx=>∃X,s6=.c X/\K_ WB wx/\WB.heap.size<=X/\ay wx X 31 2/\M4 wx X 0 (.a y.cost)/\M4 wx X 1 (.slice na y.steps.length nc))
 case first=>
  have c6:Hid (∀w',K_ WB w'->M4 w' kb 0 (.slice (some ⟨nb,nq,none⟩) Kq.length cap)/\M4 w' nb (nq+c4*3+1) (.a y.cost)/\M4 w' nb (nq+c4*3+2) (.slice na y.steps.length nc)):=λw' K=>⟨(K.cell bz).trans o3,(K.cell k0).trans n9,(K.cell k0).trans o0⟩
  have z2:(c4:Int)<(Kq.length:Int):=E5;refine bF 15 c6.o λwd KD Y=>?_
  refine ak 0 Y ?_;refine ak 4 Y ?_;refine ae 8 Y ?_;refine ae 9 Y ?_;refine fP 10 14 (λK k=>?_) (λK k=>?_)
  .rw[Nz F7];go_simp
   go_at_call 61
   refine (fe wd (some ⟨nb,nq,none⟩) cap Kq O j5 (k2.o.kept KD)).mono ?_;rintro e w2 ⟨⟨k5,rfl,hq⟩,h7⟩;have K2:=KD.trans h7;obtain rfl:k5= (c4:Int):=by
    rcases hq with⟨k',_,e',_,Z,h2⟩|⟨_,Z⟩
    .rw[e',iR (by rw[<-HY.o];exact j8) n6 Z h2]
    .rw[k4.o] at Z;cases Z
   clear hq;dsimp only;refine af k (λ_=>c6.o _ K2) ?_;clear k K;clear Y;have Y:=c6.o _ K2;refine ae 11 Y ?_;refine ae 12 Y ?_;refine ae 13 Y ?_;refine ai 14 λK k=>?_;go_simp
   have K3:K_ w2 (w2.alloc (.cells #[.a 0,M3] 31)):=ah _ _;refine af k (λ_=>c6.o _ (K2.trans K3)) ?_;clear k K;have a8:ay (w2.alloc (.cells #[.a 0,M3] 31)) w2.heap.size 31 2:=ay.made w2 _ _;have KE:=K2.trans K3;generalize s7:w2.alloc (.cells #[.a 0,M3] 31)=wE at a8 KE⊢;clear s7 K3;let⟨⟨_,v0⟩,s8⟩:=a8.row.at (i:=0) E5;let⟨⟨_,v1⟩,s9⟩:=a8.row.at (i:=1) E5;have vz:=a8.lt;refine ai 15 λK k=>?_;go_simp
   refine af k (λP=>NB rfl P) ?_;clear k K;refine aC ?_;go_wp2
   go_meet
   exact⟨w2.heap.size,rfl,Below.setCell (Below.setCell KE (p:=⟨w2.heap.size,0,none⟩) K2.size _) (p:=⟨w2.heap.size,1,none⟩) K2.size _,K2.size,(a8.set _).set _,(Xk E5 _).trans (aR a8.row E5 _),aR (a8.set _).row E5 _⟩
  .rw[Nz F7];go_simp
   have K3:K_ wd (wd.alloc (.cells #[.a 0,M3] 31)):=ah _ _;have k7:=KD.trans K3;refine af k (λ_=>c6.o _ k7) ?_;clear k K;refine aG 10 λK k=>?_;go_simp
   go_at_call 61
   refine (fe (wd.alloc (.cells #[.a 0,M3] 31)) (some ⟨nb,nq,none⟩) cap Kq O j5 (k2.o.kept k7)).mono ?_;rintro e w2 ⟨⟨k5,rfl,hq⟩,h7⟩;have K2:=k7.trans h7;obtain rfl:k5= (c4:Int):=by
    rcases hq with⟨k',_,e',_,Z,h2⟩|⟨_,Z⟩
    .rw[e',iR (by rw[<-HY.o];exact j8) n6 Z h2]
    .rw[k4.o] at Z;cases Z
   clear hq;dsimp only;refine af k (λ_=>c6.o _ K2) ?_;clear k K;clear Y;have Y:=c6.o _ K2;refine ae 11 Y ?_;refine ae 12 Y ?_;refine ae 13 Y ?_;have a8:ay w2 wd.heap.size 31 2:=(ay.made wd #[.a 0,M3] 31).kept h7;let⟨⟨_,v0⟩,s8⟩:=a8.row.at (i:=0) E5;let⟨⟨_,v1⟩,s9⟩:=a8.row.at (i:=1) E5;have vz:=a8.lt;refine ai 15 λK k=>?_;go_simp
   refine af k (λP=>NB rfl P) ?_;clear k K;refine aC ?_;go_wp2
   go_meet
   exact⟨wd.heap.size,rfl,Below.setCell (Below.setCell K2 (p:=⟨wd.heap.size,0,none⟩) KD.size _) (p:=⟨wd.heap.size,1,none⟩) KD.size _,KD.size,(a8.set _).set _,(Xk E5 _).trans (aR a8.row E5 _),aR (a8.set _).row E5 _⟩
 case rest=>
  obtain⟨X,rfl,Kx,o4,o5,c7,c8⟩:=hcut;have f3:=Kz (AgM.start O (o1.o.trans Kx) (o2.o.kept Kx) o5 c7 c8 n8.o (Mm o1.o.size o4));clear o4 o5 c7 c8 n9 o0 o3 bz k0 k1 k2 o2 Kx n8;go_upto_region 3 with fail
  let⟨c,k8⟩:=aj wc.heap.size;have o6:(wc.alloc (.cells #[.string O,.bool false,.bool false,.string ⟨#[]⟩,.a 0,.a 0,M3] 48)).heap.size=c+1:=by rw[k8];simp
  rw[<-k8] at f3⊢;have k9:=Kz o6;clear o6;generalize t8:wc.alloc (.cells #[.string O,.bool false,.bool false,.string ⟨#[]⟩,.a 0,.a 0,M3] 48)=w1 at f3 k9⊢;clear t8 k8;go_wp2_with fail
  rw[k9.o];clear k9;generalize t9:w1.alloc (.cells #[] 9)=w2 at f3⊢;clear t9;go_loopg [8] 22 (λgg v8 wr=>∃(I:Nat)(T:NM)(U:Nat)(qa:NM)(qc:Nat),v8=.slice qa (aJ (Kk Kq) (Qq l) O I).2.length qc/\I+gg=22/\Hid (∀a4,a4<I->aS (Kk Kq) (Qq l) (aJ (Kk Kq) (Qq l) O a4).1)/\Hid (AgM w wr c D X y.cost na y.steps.length nc (aJ (Kk Kq) (Qq l) O I).1 T U (.slice qa (aJ (Kk Kq) (Qq l) O I).2.length qc) (aJ (Kk Kq) (Qq l) O I).2))
  case atStart=>exact⟨0,none,0,some ⟨c+1,0,none⟩,0,rfl,rfl,Kz λa4 hi=>aO hi,f3⟩
  case round=>
   clear f3;obtain⟨I,T,U,qa,qc,rfl,z3,d0,Q⟩:=hrel;have c0:=Kz (lZ j6 j7 h3 d0.o);have v9:=rM j6 j7 h3 d0.o;have l0:=Kz (lL (W:=Kk Kq) (σ:=Qq l) (n:=O) I);let⟨r,hr⟩:=aj ((aJ (Kk Kq) (Qq l) O I).1);let⟨L,hL⟩:=aj ((aJ (Kk Kq) (Qq l) O I).2);rw[<-hr,<-hL] at Q;rw[<-hr] at c0 l0;rw[<-hL] at v9⊢;have d1:Hid (aJ (Kk Kq) (Qq l) O I= (r,L)):=by show _=_;rw[hr,hL]
   have b7:Hid (Kk Kq r.name=some ⟨y.cost,y.steps⟩):=by show _=_;rw[l0.o];exact k4.o
   have h8:Hid (aJ (Kk Kq) (Qq l) O (I+1)= ((Xx (Kk Kq) (Qq l) r).1,L++(Xx (Kk Kq) (Qq l) r).2)):=by show _=_;unfold aJ;rw[d1.o]
   clear hr hL l0;let⟨q,i,t,v,j,x,z⟩:=Q.o.box.all;have h:=Q.o.box.row.lt;by_cases h9:r.over=true
   .have c1:=Kz h9;clear q i t v j x z h;have i:wr.cell? ⟨c,1,none⟩=some (.bool true):=by have P:=Q.o.box.all.2.1;rw[c1.o] at P;exact P
    have h:=Q.o.box.row.lt;clear h9;go_upto_region 31 with fail
    clear i h;let⟨f,C⟩:=aj (Q_.cells (r) T U);have J:f.length=7:=by rw[C];rfl
    have d2:Hid (f.toArray.all (·.oneCell')=true):=by show _=_;rw[C];exact all_oneCell_toArray (by simp[Q_.cells,Value.oneCell'])
    have d4:Hid (wr.rangeAt c 0 f):=by show World.rangeAt _ _ _ _;rw[C];exact Q.o.box.rng
    have h:=Q.o.box.row.lt;have d5:Hid ((prog.info? 48).map (·.size)=some f.toArray.size):=by show _=_;rw[Tryz.fG];simp[J]
    have a9:Hid ((prog.info? 48).map (·.size)=some f.length):=by show _=_;rw[Tryz.fG,J]
    have b0:Hid (wr.there D 0 f.toArray.size):=by show World.there _ _ _ _;simpa[J] using Q.o.res.row.there (o:=0) (m:=7) (Mj _)
    have⟨d6,l1⟩:=aH C J;clear C J;go_wp2_with (first|(refine wpList_load_mid rfl 48 _ rfl c 0 rfl f _ d4.o underlying48 rfl a9.o ?_)|(refine wpList_store_mid rfl 48 _ _ rfl D 0 f.toArray rfl rfl b0.o d5.o d2.o ?_;rw[List.toList_toArray]))
    have hR:=Mo wr D 0 f (by have:=b0.o;simpa using this);refine bC f _ _ results108 rfl hR underlying48 rfl a9.o rfl rfl ?_;have d7:=d6.o;subst d7;exact Q.o.ends d1.o d0.o (λP=>by have Z:=P.1;rw[c1.o] at Z;cases Z) rfl
   have c1:Hid (r.over=false):=by cases P:r.over;rfl;exact NB P h9
   rw[c1.o] at i;clear h9;have lo:=c0.o.lo;have w0:=c0.o.hi;have tl:=c0.o.tl;obtain⟨c7,c8⟩:0<=r.at'/\r.at' < y.steps.length:=by
    let⟨w4,o7,Z,h2⟩:=c0.o.act;rw[b7.o] at o7;cases o7;exact⟨Z,h2⟩
   have z4:I<=20:=by have P:=fH h3 d0.o (by rw[d1.o];exact c1.o);rw[d1.o] at P;dsimp only at P;omega
   go_upto_if 36 with fail
   go_cut [9,10,11,12] from 36 to 87 (λ_ _ _ _ wx=>∃(A:Q_)(b4:NM)(b8:Nat),Hid (AgM w wx c D X y.cost na y.steps.length nc A b4 b8 (.slice qa L.length qc) L)/\Hid (Xx (Kk Kq) (Qq l) r=ek ⟨y.cost,y.steps⟩ A)/\0<=A.at'/\A.at' < y.steps.length/\0<=A.Zq/\A.Zq<20/\A.texts.length<=200/\Hid (∀d8∈A.texts,d8.size<=200)/\Hid (aS (Kk Kq) (Qq l) r))
   case first=>
    by_cases hv:r.Zq=0
    .have w5:¬(0:Int)<r.Zq:=E5;have HV:=Kz hv;clear hv;go_wp2
     go_meet
     exact⟨r,T,U,Q,Kz (by unfold Xx;rw[b7.o];simp[HV.o]),c7,c8,lo,E5,E5,Kz c0.o.ts,Kz ⟨c1.o,.inl HV.o⟩⟩
    .have z5:(0:Int)<r.Zq:=E5;obtain⟨ix,c2⟩:∃ix:Nat,r.at'= (ix:Int):=⟨r.at'.toNat,E5⟩;have f4:ix<y.steps.length:=E5;have x0:(ix:Int)<(y.steps.length:Int):=E5;obtain⟨tb,tq,x1,rfl,l2,R,G,H,M,N,rfl,d9,f5,_⟩:=(Steps.kept k3.o Q.o.kw) ix f4;let⟨s,hs⟩:=aj (y.steps.getD ix Xq.zero);rw[<-hs] at R d9 f5;have t0:=R 0 _ rfl;have t1:=R 1 _ rfl;have t2:=R 2 _ rfl;have t3:=R 3 _ rfl;have t4:=R 4 _ rfl;have t5:=R 5 _ rfl;have t6:=R 6 _ rfl;have t7:=R 7 _ rfl;rw[Ng] at t0;have e9:s∈y.steps:=by rw[hs];simp[List.getD,f4]
     have o8:=(h1 y e8 s e9).1;have o9:=(h1 y e8 s e9).2;have i0:=n5 y e8;have b5:Hid (stepOf ⟨y.cost,y.steps⟩ r.at'=s):=by show _=_;unfold stepOf;rw[c2,hs];rfl
     have p1:=Q.o.a1;have pz:=Q.o.act.lt;rw[c2] at j;have f6:=Kz d9;clear R d9 f5 hs;have z6:=Kz c2;clear c2;go_upto_region 7 with fail
     have kS:K_ wr (wr.alloc (.cells #[.slice G s.asks.length H,.a s.on,.slice M s.cases.length N,.a s.els,.a s.fall,.bool s.fin,.bool s.bad,.string s.give] 128)):=ah _ _;have f0:=Kz (Q.o.kept kS);have l3:=Kz (f6.o.kept kS);have x2:(wr.alloc (.cells #[.slice G s.asks.length H,.a s.on,.slice M s.cases.length N,.a s.els,.a s.fall,.bool s.fin,.bool s.bad,.string s.give] 128)).rangeAt wr.heap.size 0 #[.slice G s.asks.length H,.a s.on,.slice M s.cases.length N,.a s.els,.a s.fall,.bool s.fin,.bool s.bad,.string s.give].toList:=X_ wr _ _;have v0:=X_ wr #[.slice G s.asks.length H,.a s.on,.slice M s.cases.length N,.a s.els,.a s.fall,.bool s.fin,.bool s.bad,.string s.give] 128 0 _ rfl;have v1:=X_ wr #[.slice G s.asks.length H,.a s.on,.slice M s.cases.length N,.a s.els,.a s.fall,.bool s.fin,.bool s.bad,.string s.give] 128 1 _ rfl;have v2:=X_ wr #[.slice G s.asks.length H,.a s.on,.slice M s.cases.length N,.a s.els,.a s.fall,.bool s.fin,.bool s.bad,.string s.give] 128 2 _ rfl;have v3:=X_ wr #[.slice G s.asks.length H,.a s.on,.slice M s.cases.length N,.a s.els,.a s.fall,.bool s.fin,.bool s.bad,.string s.give] 128 3 _ rfl;have v4:=X_ wr #[.slice G s.asks.length H,.a s.on,.slice M s.cases.length N,.a s.els,.a s.fall,.bool s.fin,.bool s.bad,.string s.give] 128 4 _ rfl;have v5:=X_ wr #[.slice G s.asks.length H,.a s.on,.slice M s.cases.length N,.a s.els,.a s.fall,.bool s.fin,.bool s.bad,.string s.give] 128 5 _ rfl;have v6:=X_ wr #[.slice G s.asks.length H,.a s.on,.slice M s.cases.length N,.a s.els,.a s.fall,.bool s.fin,.bool s.bad,.string s.give] 128 6 _ rfl;have v7:=X_ wr #[.slice G s.asks.length H,.a s.on,.slice M s.cases.length N,.a s.els,.a s.fall,.bool s.fin,.bool s.bad,.string s.give] 128 7 _ rfl;simp only[MR] at v0 v1 v2 v3 v4 v5 v6 v7;have vz:wr.heap.size<(wr.alloc (.cells #[.slice G s.asks.length H,.a s.on,.slice M s.cases.length N,.a s.els,.a s.fall,.bool s.fin,.bool s.bad,.string s.give] 128)).heap.size:=E9;let⟨sb,e0⟩:=aj wr.heap.size;rw[<-e0] at v0 v1 v2 v3 v4 v5 v6 v7 vz⊢;generalize B:wr.alloc (.cells #[.slice G s.asks.length H,.a s.on,.slice M s.cases.length N,.a s.els,.a s.fall,.bool s.fin,.bool s.bad,.string s.give] 128)=w1 at f0 l3 v0 v1 v2 v3 v4 v5 v6 v7 vz⊢;clear B x2 kS e0 t0 t1 t2 t3 t4 t5 t6 t7 p1 pz Q f6 i l2;clear q t v j x z h;go_wp2_with fail
     refine (pE w1 kb (some ⟨nb,nq,none⟩) cap Kq d dc l s G M H N j5 s2 o8 o9 (s3.o.kept f0.o.kw) (s4.o.kept f0.o.kw) (s5.o.kept f0.o.kw) l3.o).mono ?_;rintro e w3 ⟨⟨d3,z7,p0,ok,rfl,l4,l5⟩,l6⟩;have F:=Kz (f0.o.kept l6);clear v0 v1 v2 v3 v4 v5 v6 v7 vz f0 l3;have p2:r.Zq≠0:=hv;have f7:=Kz p2;clear p2;cases ok
     .have x3:=Kz (l5 rfl);clear l4 l5 l6;go_upto_region 9 with fail
      let⟨f,C⟩:=aj (Q_.cells (r) T U);have J:f.length=7:=by rw[C];rfl
      have d2:Hid (f.toArray.all (·.oneCell')=true):=by show _=_;rw[C];exact all_oneCell_toArray (by simp[Q_.cells,Value.oneCell'])
      have d4:Hid (w3.rangeAt c 0 f):=by show World.rangeAt _ _ _ _;rw[C];exact F.o.box.rng
      have h:=F.o.box.row.lt;have d5:Hid ((prog.info? 48).map (·.size)=some f.toArray.size):=by show _=_;rw[Tryz.fG];simp[J]
      have a9:Hid ((prog.info? 48).map (·.size)=some f.length):=by show _=_;rw[Tryz.fG,J]
      have b0:Hid (w3.there D 0 f.toArray.size):=by show World.there _ _ _ _;simpa[J] using F.o.res.row.there (o:=0) (m:=7) (Mj _)
      have⟨d6,l1⟩:=aH C J;clear C J;go_wp2_with (first|(refine wpList_load_mid rfl 48 _ rfl c 0 rfl f _ d4.o underlying48 rfl a9.o ?_)|(refine wpList_store_mid rfl 48 _ _ rfl D 0 f.toArray rfl rfl b0.o d5.o d2.o ?_;rw[List.toList_toArray]))
      have hR:=Mo w3 D 0 f (by have:=b0.o;simpa using this);refine bC f _ _ results108 rfl hR underlying48 rfl a9.o rfl rfl ?_;have d7:=d6.o;subst d7;exact F.o.ends d1.o d0.o (λP=>by rcases P.2 with g|⟨w4,a2,g1,g2⟩;exact f7.o g;rw[b7.o] at g1;cases g1;rw[b5.o,x3.o] at g2;cases g2) rfl
     .obtain⟨a2,p3,rfl,p4⟩:=l4 rfl;have⟨f8,l7⟩:=aH p3 p4;clear l4 l5 p3 p4 l6;have i1:Hid (aS (Kk Kq) (Qq l) r):=⟨c1.o,.inr ⟨_,a2,b7.o,by rw[b5.o];exact f8.o⟩⟩;have f9:Hid (∀a4,a4<I+1->aS (Kk Kq) (Qq l) (aJ (Kk Kq) (Qq l) O a4).1):=λa4 hi=>by
       rcases Nat.lt_or_ge a4 I with g|g
       .exact d0.o a4 g
       .obtain rfl:a4=I:=E5;rw[d1.o];exact i1.o
      by_cases f1:r.Zq=20
      .have x4:(r.Zq == 20)=true:=by simp[f1]
       have g0:=Kz f1;clear f1;let⟨q,i,t,v,j,x,z⟩:=F.o.box.all;have h:=F.o.box.row.lt;go_upto_region 11 with fail
       clear q i t v j x z h;let⟨q,i,t,v,j,x,z⟩:=F.o.box.all;have h:=F.o.box.row.lt;let⟨_,g1⟩:=F.o.box.row.row.at (i:=1) E5;go_upto_region 12 with fail
       have b1:Hid (AgM w (w3.setCell ⟨c,1,none⟩ (.bool true)) c D X y.cost (some ⟨tb,tq,none⟩) y.steps.length nc ({r with over:=true}) T U (.slice qa L.length qc) L):=F.o.put E5 rfl rfl;generalize B:w3.setCell ⟨c,1,none⟩ (.bool true)=p5 at b1  ⊢;clear B;clear q i t v j x z h;clear g1;let⟨q,i,t,v,j,x,z⟩:=b1.o.box.all;have h:=b1.o.box.row.lt;let⟨_,g2⟩:=b1.o.box.row.row.at (i:=2) E5;go_upto_region 13 with fail
       have b2:Hid (AgM w (p5.setCell ⟨c,2,none⟩ (.bool true)) c D X y.cost (some ⟨tb,tq,none⟩) y.steps.length nc ({r with over:=true,fail:=true}) T U (.slice qa L.length qc) L):=b1.o.put E5 rfl rfl;generalize B:p5.setCell ⟨c,2,none⟩ (.bool true)=E at b2  ⊢;clear B;clear q i t v j x z h;clear g2;let⟨q,i,t,v,j,x,z⟩:=b2.o.box.all;have h:=b2.o.box.row.lt;let⟨_,i2⟩:=b2.o.box.row.row.at (i:=3) E5;go_upto_region 14 with fail
       have S:Hid (AgM w (E.setCell ⟨c,3,none⟩ (.string ⟨#[115,112,101,110,116]⟩)) c D X y.cost (some ⟨tb,tq,none⟩) y.steps.length nc ({r with over:=true,fail:=true,text:=iT}) T U (.slice qa L.length qc) L):=b2.o.put E5 rfl rfl;generalize B:E.setCell ⟨c,3,none⟩ (.string ⟨#[115,112,101,110,116]⟩)=w6 at S  ⊢;clear B;clear q i t v j x z h;clear i2;have b9:Hid (Xx (Kk Kq) (Qq l) r= ({r with over:=true,fail:=true,text:=iT},[])):=by show _=_;unfold Xx;rw[b7.o];simp only;rw[NA f7.o,b5.o,f8.o];simp[g0.o]
       let⟨f,C⟩:=aj (Q_.cells ({r with over:=true,fail:=true,text:=iT}) T U);have J:f.length=7:=by rw[C];rfl
       have d2:Hid (f.toArray.all (·.oneCell')=true):=by show _=_;rw[C];exact all_oneCell_toArray (by simp[Q_.cells,Value.oneCell'])
       have d4:Hid (w6.rangeAt c 0 f):=by show World.rangeAt _ _ _ _;rw[C];exact S.o.box.rng
       have h:=S.o.box.row.lt;have d5:Hid ((prog.info? 48).map (·.size)=some f.toArray.size):=by show _=_;rw[Tryz.fG];simp[J]
       have a9:Hid ((prog.info? 48).map (·.size)=some f.length):=by show _=_;rw[Tryz.fG,J]
       have b0:Hid (w6.there D 0 f.toArray.size):=by show World.there _ _ _ _;simpa[J] using S.o.res.row.there (o:=0) (m:=7) (Mj _)
       have⟨d6,l1⟩:=aH C J;clear C J;go_wp2_with (first|(refine wpList_load_mid rfl 48 _ rfl c 0 rfl f _ d4.o underlying48 rfl a9.o ?_)|(refine wpList_store_mid rfl 48 _ _ rfl D 0 f.toArray rfl rfl b0.o d5.o d2.o ?_;rw[List.toList_toArray]))
       have hR:=Mo w6 D 0 f (by have:=b0.o;simpa using this);refine bC f _ _ results108 rfl hR underlying48 rfl a9.o rfl rfl ?_;have d7:=d6.o;subst d7;exact S.o.ends (h8.o.trans (by rw[b9.o,List.append_nil])) f9.o (λP=>by have Z:=P.1;cases Z) rfl
      .have x4:(r.Zq == 20)=false:=by simpa using f1
       have g0:=Kz f1;clear f1;have l8:=(j6 _ _ b7.o).1;let⟨p6,l9⟩:=iw l8 c7 c8;rw[b5.o] at p6 l9;have p7:∀n∈s.asks,n.size<=20:=λn hn=>(l9 n hn).2.1
       let⟨m0,p8⟩:=nQ j7 p7 f8.o;have z8:a2.length<=5:=by rw[m0.1];exact p6
       have HW:Hid (kX y.cost y.steps r.at' a2 (eT s a2)):=.inr ⟨⟨l8,⟨c7,c8⟩,c0.o.stp _ b7.o c1.o f7.o⟩,by have e:jK y.steps r.at'=s:=b5.o;rw[e];exact jc m0⟩;have p9:=Kz p8;clear p8 l8 l9 p7 m0;have q0:a2.length<=maxLen:=F5;have q1:∀m1∈a2,m1.text.size<=maxLen:=λm1 hc=>by have:=p9.o m1 hc;unfold maxLen;omega
       have x5:=F.o.a0;have p1:=F.o.a1;have x6:=F.o.act.lt;let⟨q,i,t,v,j,x,z⟩:=F.o.box.all;have h:=F.o.box.row.lt;go_wp2_with fail
       refine (sM _ y.cost r.at' (some ⟨tb,tq,none⟩) d3 nc p0 y.steps a2 i0.steps i0.each (Steps.kept k3.o F.o.kw) q0 q1 l7.o).mono ?_;rintro e E ⟨⟨q2,rfl,hG⟩,i3⟩;have q3:q2=eT s a2:=hG.unique HW.o;let⟨gc,go,gt,V⟩:=q2;have i4:=Kz q3;have q4:(b_.mk gc go gt V).cells.toArray= #[.a gc,.bool go,.a gt,.string V]:=rfl;rw[q4];clear q4 hG q3;have k6:K_ E (E.alloc (.cells #[.a gc,.bool go,.a gt,.string V] 168)):=ah _ _;have x7:=i3.size;have K6:=i3.trans k6;have S:=Kz (F.o.kept K6);have c5:=X_ E #[.a gc,.bool go,.a gt,.string V] 168 1 _ rfl;have f2:=X_ E #[.a gc,.bool go,.a gt,.string V] 168 2 _ rfl;have e3:=X_ E #[.a gc,.bool go,.a gt,.string V] 168 3 _ rfl;simp only[MR] at c5 f2 e3;have a3:E.heap.size<(E.alloc (.cells #[.a gc,.bool go,.a gt,.string V] 168)).heap.size:=E9;have g3:E.heap.size≠c:=by have:=(F.o.kept i3).box.row.lt;omega
       have g5:=Kz (l7.o.kept K6);clear q i t v j x z h;clear x5 p1 x6 i3 k6 q0 q1 l7;cases go
       .go_upto_region 22 with fail
        generalize B:E.alloc (.cells #[.a gc,.bool false,.a gt,.string V] 168)=w6 at S g5 c5 f2 e3 a3 K6⊢;clear B c5 e3 K6;have m2:=(HW.o.KQ).1;rw[<-i4.o] at m2;have q5:gc=0:=by have h2:=xE s a2;rw[<-i4.o] at h2;exact h2
        let⟨q6,q7⟩:=m2 q5 rfl;dsimp only at q6 q7;clear m2 q5;have z9:r.texts.length<=100:=E5;have A0:=rC a2;let⟨ic,i5,i6,i7,i8⟩:=aW Tryz.fA;have m3:Hid (∀w',K_ w6 w'->M4 w' c 6 (.slice T r.texts.length U)):=λw' K=>(S.o.kept K).box.all.2.2.2.2.2.2
        refine bF 6 m3.o λwd KD Y=>?_
        refine ae 0 Y ?_;refine ae 1 Y ?_;refine ae 2 Y ?_;refine aG 3 λK k=>?_;go_simp
        go_at_call 163
        refine (wY wd d3 p0 a2 E5 (g5.o.kept KD)).mono ?_;rintro e w9 ⟨⟨x8,c9,rfl,q8⟩,q9⟩;have K9:=KD.trans q9;have r0:=Kz q8;have a5:=Kz (S.o.kept K9);clear q9 q8;dsimp only;refine af k (λ_=>m3.o _ K9) ?_;clear k K;refine ai 4 λK k=>?_;have x9:w.heap.size<=w9.heap.size:=a5.o.kw.size;refine fw (.tmp 80) (.tmp 82) 26 rfl w.heap.size 9 ic _ 16 underlying26 i5 i6 i7 i8 rfl (.slice T r.texts.length U) r.texts.length (r.texts.map Value.string) rfl a5.o.txt (some ⟨x8,0,none⟩) c9 (aL a2) rfl r0.o F5 E5 x9 ?_;intro v2 b3 m4 m5 r1;obtain⟨i9,j0,rfl⟩:=aF m4;have g7:=Kz (a5.o.texts m4 m5 r1);have kg:But (λb=>(Value.slice T r.texts.length U).ownBlock=some b) w9 b3:=But.aI m5 λb e=>e;have m6:¬(Value.slice T r.texts.length U).ownBlock=some c:=λe=>aU (Y_ a5.o.txt e) a5.o.box.row.type E8 rfl
        have m7:=kg.row a5.o.box.row m6;have m8:M4 b3 c 6 (.slice T r.texts.length U):=(kg.cell a5.o.box.row.lt m6).trans a5.o.box.all.2.2.2.2.2.2;have y0:¬(Value.slice T r.texts.length U).ownBlock=some E.heap.size:=λe=>by
         have Z:=(F.o.txt.lt _ e).2;have h2:w3.heap.size<=E.heap.size:=x7;omega
        have r2:M4 b3 E.heap.size 2 (.a gt):=(kg.cell (Mk a3 K9.size) y0).trans ((K9.cell a3).trans f2);have r3:E.heap.size<b3.heap.size:=Mk (Mk a3 K9.size) kg.size;refine af k (λ_=>m8) ?_;clear k K;clear m4 m5 r1 kg m6;refine ai 5 λK k=>?_;go_simp
        refine af k (λ_=>m8) ?_;clear k K;let⟨_,g6⟩:=m7.row.at (i:=6) E5;have y1:=m7.lt;refine ai 6 λK k=>?_;go_simp
        refine af k (λP=>NB rfl P) ?_;clear k K;refine aC ?_;have y2:(b3.setCell ⟨c,6,none⟩ (.slice i9 (r.texts.length+(aL a2).length) j0)).cell? ⟨E.heap.size,2,none⟩=some (.a gt):=by rw[Zj g3];exact r2
        have y3:E.heap.size<(b3.setCell ⟨c,6,none⟩ (.slice i9 (r.texts.length+(aL a2).length) j0)).heap.size:=by rw[size_setCell];exact r3
        generalize B:b3.setCell ⟨c,6,none⟩ (.slice i9 (r.texts.length+(aL a2).length) j0)=A1 at g7 y2 y3⊢;clear B m8 m7 g6 y1 f2 a3 r2 r3 Y m3 KD K9 a5 r0 S g5;let⟨q,i,t,v,j,x,z⟩:=g7.o.box.all;have h:=g7.o.box.row.lt;let⟨_,g4⟩:=g7.o.box.row.row.at (i:=4) E5;go_wp2
        go_meet
        refine⟨{r with texts:=r.texts++aL a2,at':=gt},i9,j0,Kz (g7.o.put E5 rfl rfl),Kz (by unfold Xx;rw[b7.o];simp only;rw[NA f7.o,b5.o,f8.o];simp only;rw[NA g0.o,<-i4.o,NA E9]),q6,q7,lo,(by show r.Zq<20;have:=g0.o;omega),(by show (r.texts++aL a2).length<=200;rw[M_];omega),Kz λd8 ht=>?_,i1⟩;rcases Mv.1 ht with ht|ht
        .exact c0.o.ts d8 ht
        .obtain⟨y4,hx,rfl⟩:=nR ht;exact p9.o y4 hx
       .go_upto_region 17 with fail
        generalize B:E.alloc (.cells #[.a gc,.bool true,.a gt,.string V] 168)=w6 at S g5 c5 f2 e3 a3 K6⊢;clear B c5 f2 g5 K6;let⟨q,i,t,v,j,x,z⟩:=S.o.box.all;have h:=S.o.box.row.lt;let⟨_,m9⟩:=S.o.box.row.row.at (i:=5) E5;go_upto_region 18 with fail
        have b6:Hid (AgM w (w6.setCell ⟨c,5,none⟩ (.a (r.Zq+1))) c D X y.cost (some ⟨tb,tq,none⟩) y.steps.length nc ({r with Zq:=r.Zq+1}) T U (.slice qa L.length qc) L):=S.o.put E5 rfl rfl;have a6:(w6.setCell ⟨c,5,none⟩ (.a (r.Zq+1))).cell? ⟨E.heap.size,3,none⟩=some (.string V):=by rw[Zj g3];exact e3
        have a7:E.heap.size<(w6.setCell ⟨c,5,none⟩ (.a (r.Zq+1))).heap.size:=by rw[size_setCell];exact a3
        generalize B:w6.setCell ⟨c,5,none⟩ (.a (r.Zq+1))=w7 at b6 a6 a7⊢;clear B;clear q i t v j x z h;clear m9;clear e3 a3;have e3:=a6;have a3:=a7;clear a6 a7;let⟨q,i,t,v,j,x,z⟩:=b6.o.box.all;have h:=b6.o.box.row.lt;let⟨_,g1⟩:=b6.o.box.row.row.at (i:=1) E5;go_upto_region 19 with fail
        have e1:Hid (AgM w (w7.setCell ⟨c,1,none⟩ (.bool true)) c D X y.cost (some ⟨tb,tq,none⟩) y.steps.length nc ({r with Zq:=r.Zq+1,over:=true}) T U (.slice qa L.length qc) L):=b6.o.put E5 rfl rfl;have a6:(w7.setCell ⟨c,1,none⟩ (.bool true)).cell? ⟨E.heap.size,3,none⟩=some (.string V):=by rw[Zj g3];exact e3
        have a7:E.heap.size<(w7.setCell ⟨c,1,none⟩ (.bool true)).heap.size:=by rw[size_setCell];exact a3
        generalize B:w7.setCell ⟨c,1,none⟩ (.bool true)=w8 at e1 a6 a7⊢;clear B;clear q i t v j x z h;clear g1;clear e3 a3;have e3:=a6;have a3:=a7;clear a6 a7;let⟨q,i,t,v,j,x,z⟩:=e1.o.box.all;have h:=e1.o.box.row.lt;let⟨_,g2⟩:=e1.o.box.row.row.at (i:=2) E5;go_upto_region 20 with fail
        have a5:Hid (AgM w (w8.setCell ⟨c,2,none⟩ (.bool true)) c D X y.cost (some ⟨tb,tq,none⟩) y.steps.length nc ({r with Zq:=r.Zq+1,over:=true,fail:=true}) T U (.slice qa L.length qc) L):=e1.o.put E5 rfl rfl;have a6:(w8.setCell ⟨c,2,none⟩ (.bool true)).cell? ⟨E.heap.size,3,none⟩=some (.string V):=by rw[Zj g3];exact e3
        have a7:E.heap.size<(w8.setCell ⟨c,2,none⟩ (.bool true)).heap.size:=by rw[size_setCell];exact a3
        generalize B:w8.setCell ⟨c,2,none⟩ (.bool true)=w9 at a5 a6 a7⊢;clear B;clear q i t v j x z h;clear g2;clear e3 a3;have e3:=a6;have a3:=a7;clear a6 a7;let⟨q,i,t,v,j,x,z⟩:=a5.o.box.all;have h:=a5.o.box.row.lt;let⟨_,i2⟩:=a5.o.box.row.row.at (i:=3) E5;go_upto_region 21 with fail
        have g8:Hid (AgM w (w9.setCell ⟨c,3,none⟩ (.string V)) c D X y.cost (some ⟨tb,tq,none⟩) y.steps.length nc ({r with Zq:=r.Zq+1,over:=true,fail:=true,text:=V}) T U (.slice qa L.length qc) L):=a5.o.put E5 rfl rfl;have a6:(w9.setCell ⟨c,3,none⟩ (.string V)).cell? ⟨E.heap.size,3,none⟩=some (.string V):=by rw[Zj g3];exact e3
        have a7:E.heap.size<(w9.setCell ⟨c,3,none⟩ (.string V)).heap.size:=by rw[size_setCell];exact a3
        generalize B:w9.setCell ⟨c,3,none⟩ (.string V)=b3 at g8 a6 a7⊢;clear B;clear q i t v j x z h;clear i2;clear e3 a3;have e3:=a6;have a3:=a7;clear a6 a7;have b9:Hid (Xx (Kk Kq) (Qq l) r= ({r with Zq:=r.Zq+1,over:=true,fail:=true,text:=V},[])):=by show _=_;unfold Xx;rw[b7.o];simp only;rw[NA f7.o,b5.o,f8.o];simp only;rw[NA g0.o,<-i4.o,Nz rfl]
        let⟨f,C⟩:=aj (Q_.cells ({r with Zq:=r.Zq+1,over:=true,fail:=true,text:=V}) T U);have J:f.length=7:=by rw[C];rfl
        have d2:Hid (f.toArray.all (·.oneCell')=true):=by show _=_;rw[C];exact all_oneCell_toArray (by simp[Q_.cells,Value.oneCell'])
        have d4:Hid (b3.rangeAt c 0 f):=by show World.rangeAt _ _ _ _;rw[C];exact g8.o.box.rng
        have h:=g8.o.box.row.lt;have d5:Hid ((prog.info? 48).map (·.size)=some f.toArray.size):=by show _=_;rw[Tryz.fG];simp[J]
        have a9:Hid ((prog.info? 48).map (·.size)=some f.length):=by show _=_;rw[Tryz.fG,J]
        have b0:Hid (b3.there D 0 f.toArray.size):=by show World.there _ _ _ _;simpa[J] using g8.o.res.row.there (o:=0) (m:=7) (Mj _)
        have⟨d6,l1⟩:=aH C J;clear C J;go_wp2_with (first|(refine wpList_load_mid rfl 48 _ rfl c 0 rfl f _ d4.o underlying48 rfl a9.o ?_)|(refine wpList_store_mid rfl 48 _ _ rfl D 0 f.toArray rfl rfl b0.o d5.o d2.o ?_;rw[List.toList_toArray]))
        have hR:=Mo b3 D 0 f (by have:=b0.o;simpa using this);refine bC f _ _ results108 rfl hR underlying48 rfl a9.o rfl rfl ?_;have d7:=d6.o;subst d7;exact g8.o.ends (h8.o.trans (by rw[b9.o,List.append_nil])) f9.o (λP=>by have Z:=P.1;cases Z) rfl
   case rest=>
    clear q i t v j x z h;clear Q lo w0 tl c7 c8;let⟨A,b4,b8,Q,r4,A2,A3,w5,A4,A5,y5,i1⟩:=hcut;obtain⟨wM,rfl⟩:=aj wc;have f9:Hid (∀a4,a4<I+1->aS (Kk Kq) (Qq l) (aJ (Kk Kq) (Qq l) O a4).1):=λa4 hi=>by
     rcases Nat.lt_or_ge a4 I with g|g
     .exact d0.o a4 g
     .obtain rfl:a4=I:=E5;rw[d1.o];exact i1.o
    go_upto_region 24 with fail
    let⟨q,i,t,v,j,x,z⟩:=Q.o.box.all;have h:=Q.o.box.row.lt;let⟨_,m9⟩:=Q.o.box.row.row.at (i:=5) E5;go_upto_region 25 with fail
    have c3:Hid (AgM w (wM.setCell ⟨c,5,none⟩ (.a (A.Zq+1))) c D X y.cost na y.steps.length nc ({A with Zq:=A.Zq+1}) b4 b8 (.slice qa L.length qc) L):=Q.o.put E5 rfl rfl;generalize B:wM.setCell ⟨c,5,none⟩ (.a (A.Zq+1))=wP at c3  ⊢;clear B;clear q i t v j x z h;clear m9;let⟨q,i,t,v,j,x,z⟩:=c3.o.box.all;have h:=c3.o.box.row.lt;dsimp only at j;obtain⟨ix,c2⟩:∃ix:Nat,A.at'= (ix:Int):=⟨A.at'.toNat,E5⟩;have f4:ix<y.steps.length:=E5;have x0:(ix:Int)<(y.steps.length:Int):=E5;obtain⟨tb,tq,x1,rfl,l2,R,G,H,M,N,rfl,d9,f5,_⟩:=(Steps.kept k3.o c3.o.kw) ix f4;let⟨s,hs⟩:=aj (y.steps.getD ix Xq.zero);rw[<-hs] at R d9 f5;have t0:=R 0 _ rfl;have t1:=R 1 _ rfl;have t2:=R 2 _ rfl;have t3:=R 3 _ rfl;have t4:=R 4 _ rfl;have t5:=R 5 _ rfl;have t6:=R 6 _ rfl;have t7:=R 7 _ rfl;rw[Ng] at t0;have e9:s∈y.steps:=by rw[hs];simp[List.getD,f4]
    have o8:=(h1 y e8 s e9).1;have o9:=(h1 y e8 s e9).2;have i0:=n5 y e8;have b5:Hid (stepOf ⟨y.cost,y.steps⟩ A.at'=s):=by show _=_;unfold stepOf;rw[c2,hs];rfl
    have p1:=c3.o.a1;have pz:=c3.o.act.lt;rw[c2] at j;have f6:=Kz d9;clear R d9 f5 hs;have y6:=i0.each s e9;clear c2;go_upto_region 26 with fail
    have kS:K_ wP (wP.alloc (.cells #[.slice G s.asks.length H,.a s.on,.slice M s.cases.length N,.a s.els,.a s.fall,.bool s.fin,.bool s.bad,.string s.give] 128)):=ah _ _;have F:=Kz (c3.o.kept kS);have n0:=Kz (f6.o.kept kS);have v0:=X_ wP #[.slice G s.asks.length H,.a s.on,.slice M s.cases.length N,.a s.els,.a s.fall,.bool s.fin,.bool s.bad,.string s.give] 128 0 _ rfl;have v5:=X_ wP #[.slice G s.asks.length H,.a s.on,.slice M s.cases.length N,.a s.els,.a s.fall,.bool s.fin,.bool s.bad,.string s.give] 128 5 _ rfl;have v6:=X_ wP #[.slice G s.asks.length H,.a s.on,.slice M s.cases.length N,.a s.els,.a s.fall,.bool s.fin,.bool s.bad,.string s.give] 128 6 _ rfl;have v7:=X_ wP #[.slice G s.asks.length H,.a s.on,.slice M s.cases.length N,.a s.els,.a s.fall,.bool s.fin,.bool s.bad,.string s.give] 128 7 _ rfl;simp only[MR] at v0 v5 v6 v7;have e2:wP.heap.size<(wP.alloc (.cells #[.slice G s.asks.length H,.a s.on,.slice M s.cases.length N,.a s.els,.a s.fall,.bool s.fin,.bool s.bad,.string s.give] 128)).heap.size:=E9;let⟨sb,e0⟩:=aj wP.heap.size;have j1:sb≠c:=by rw[e0];omega
    have n1:Hid (bA (wP.alloc (.cells #[.slice G s.asks.length H,.a s.on,.slice M s.cases.length N,.a s.els,.a s.fall,.bool s.fin,.bool s.bad,.string s.give] 128)) sb 128):=by rw[e0];exact (ay.made wP _ _).type
    rw[<-e0] at v0 v5 v6 v7 e2⊢;generalize B:wP.alloc (.cells #[.slice G s.asks.length H,.a s.on,.slice M s.cases.length N,.a s.els,.a s.fall,.bool s.fin,.bool s.bad,.string s.give] 128)=wQ at F n0 n1 v0 v5 v6 v7 e2⊢;clear B kS e0 t0 t1 t2 t3 t4 t5 t6 t7 p1 pz l2 f6 c3;clear q i t v j x z h;let⟨ic,i5,i6,i7,i8⟩:=aW Tryz.fA;have r5:w.heap.size<=wQ.heap.size:=F.o.kw.size;go_upto_region 27 with (at_builtin;refine gB rfl (.tmp 98) (.tmp 100) 26 rfl w.heap.size 9 ic _ 16 underlying26 i5 i6 i7 i8 rfl (.slice qa L.length qc) L.length (L.map Value.string) rfl F.o.ask G H s.asks rfl n0.o F5 E5 r5 ?_;intro vA wA n2 n3 r6;obtain⟨g9,h0,rfl⟩:=aF n2;have b1:=Kz (F.o.asks n2 n3 r6);have kA:But (λb=>(Value.slice qa L.length qc).ownBlock=some b) wQ wA:=But.aI n3 λb e=>e;have j2:Hid (¬(Value.slice qa L.length qc).ownBlock=some sb):=λe=>aU n1.o (Y_ F.o.ask e) E8 rfl)
    have u5:=(kA.cell e2 j2.o (o:=5)).trans v5;have u6:=(kA.cell e2 j2.o (o:=6)).trans v6;have u7:=(kA.cell e2 j2.o (o:=7)).trans v7;have r7:=Mk e2 kA.size;have e4:=r7;have e5:=r7;clear v0 v5 v6 v7 e2 kA j2 n2 n3 r6 F n0 n1 r5 i5 i6 i7 i8;have r8:(L++s.asks).length=L.length+s.asks.length:=M_;have j3:=Kz r8;clear r8;cases j4:s.fin
    .rw[j4] at u5;go_wp2
     go_roundg (gk-1)
     case measure=>omega
     case rel=>
      have b9:aJ (Kk Kq) (Qq l) O (I+1)= ({A with Zq:=A.Zq+1},L++s.asks):=by rw[h8.o,r4.o];unfold ek;rw[b5.o,j4];rfl
      exact⟨I+1,b4,b8,g9,h0,by rw[b9,j3.o],E5,f9,Kz (by rw[b9];dsimp only;rw[j3.o];exact b1.o)⟩
    .rw[j4] at u5;go_upto_region 28 with fail
     let⟨q,i,t,v,j,x,z⟩:=b1.o.box.all;have h:=b1.o.box.row.lt;let⟨_,g1⟩:=b1.o.box.row.row.at (i:=1) E5;go_upto_region 29 with fail
     have b2:Hid (AgM w (wA.setCell ⟨c,1,none⟩ (.bool true)) c D X y.cost (some ⟨tb,tq,none⟩) y.steps.length nc ({A with Zq:=A.Zq+1,over:=true}) b4 b8 (.slice g9 (L.length+s.asks.length) h0) (L++s.asks)):=b1.o.put E5 rfl rfl;have u62:(wA.setCell ⟨c,1,none⟩ (.bool true)).cell? ⟨sb,6,none⟩=some (.bool s.bad):=by rw[Zj j1];exact u6
     have e6:sb<(wA.setCell ⟨c,1,none⟩ (.bool true)).heap.size:=by rw[size_setCell];exact e4
     have u72:(wA.setCell ⟨c,1,none⟩ (.bool true)).cell? ⟨sb,7,none⟩=some (.string s.give):=by rw[Zj j1];exact u7
     have e7:sb<(wA.setCell ⟨c,1,none⟩ (.bool true)).heap.size:=by rw[size_setCell];exact e5
     generalize B:wA.setCell ⟨c,1,none⟩ (.bool true)=wR at b2 u62 e6 u72 e7⊢;clear B;clear q i t v j x z h;clear g1;clear u6 e4;have u6:=u62;have e4:=e6;clear u62 e6;clear u7 e5;have u7:=u72;have e5:=e7;clear u72 e7;let⟨q,i,t,v,j,x,z⟩:=b2.o.box.all;have h:=b2.o.box.row.lt;let⟨_,g2⟩:=b2.o.box.row.row.at (i:=2) E5;go_upto_region 30 with fail
     have S:Hid (AgM w (wR.setCell ⟨c,2,none⟩ (.bool s.bad)) c D X y.cost (some ⟨tb,tq,none⟩) y.steps.length nc ({A with Zq:=A.Zq+1,over:=true,fail:=s.bad}) b4 b8 (.slice g9 (L.length+s.asks.length) h0) (L++s.asks)):=b2.o.put E5 rfl rfl;have u62:(wR.setCell ⟨c,2,none⟩ (.bool s.bad)).cell? ⟨sb,6,none⟩=some (.bool s.bad):=by rw[Zj j1];exact u6
     have e6:sb<(wR.setCell ⟨c,2,none⟩ (.bool s.bad)).heap.size:=by rw[size_setCell];exact e4
     have u72:(wR.setCell ⟨c,2,none⟩ (.bool s.bad)).cell? ⟨sb,7,none⟩=some (.string s.give):=by rw[Zj j1];exact u7
     have e7:sb<(wR.setCell ⟨c,2,none⟩ (.bool s.bad)).heap.size:=by rw[size_setCell];exact e5
     generalize B:wR.setCell ⟨c,2,none⟩ (.bool s.bad)=wS at S u62 e6 u72 e7⊢;clear B;clear q i t v j x z h;clear g2;clear u6 e4;have u6:=u62;have e4:=e6;clear u62 e6;clear u7 e5;have u7:=u72;have e5:=e7;clear u72 e7;let⟨q,i,t,v,j,x,z⟩:=S.o.box.all;have h:=S.o.box.row.lt;have y7:s.give.size<=maxLen:=y6.give;have y8:A.texts.length<=maxLen:=F5;have r9:∀d8∈A.texts,d8.size<=maxLen:=λd8 ht=>by have:=y5.o d8 ht;unfold maxLen;omega
     have s0:Hid (Strs wS b4 A.texts):=by
      let⟨ta,tc,s1,y9⟩:=bO S.o.txt;simp only[Nb] at s1;rw[s1.1];exact y9
     go_wp2_with fail
     refine (pX wS s.give b4 b8 A.texts y7 y8 r9 s0.o).mono ?_;rintro e wT ⟨rfl,kT⟩;have b6:=Kz (S.o.kept kT);clear u6 u7 e4 e5 kT r9 s0;clear q i t v j x z h;let⟨fb,n4⟩:=aj (nL s.give A.texts);rw[<-n4];have z0:=Kz n4;clear n4;let⟨q,i,t,v,j,x,z⟩:=b6.o.box.all;have h:=b6.o.box.row.lt;let⟨_,i2⟩:=b6.o.box.row.row.at (i:=3) E5;go_wp2_with fail
     have e1:Hid (AgM w (wT.setCell ⟨c,3,none⟩ (.string fb)) c D X y.cost (some ⟨tb,tq,none⟩) y.steps.length nc ({A with Zq:=A.Zq+1,over:=true,fail:=s.bad,text:=fb}) b4 b8 (.slice g9 (L.length+s.asks.length) h0) (L++s.asks)):=b6.o.put E5 rfl rfl;go_roundg (gk-1)
     case measure=>omega
     case rel=>
      have b9:aJ (Kk Kq) (Qq l) O (I+1)= ({A with Zq:=A.Zq+1,over:=true,fail:=s.bad,text:=fb},L++s.asks):=by rw[h8.o,r4.o];unfold ek;rw[b5.o,j4,z0.o];rfl
      exact⟨I+1,b4,b8,g9,h0,by rw[b9,j3.o],E5,f9,Kz (by rw[b9];dsimp only;rw[j3.o];exact e1.o)⟩
def ovr :List NP->Nat->List NP->List NP
 |xs,_,[]=>xs
 |xs,o,v :: vs=>ovr (xs.set o v) (o+1) vs
theorem EZ :∀(vs xs:List NP)(o:Nat),(ovr xs o vs).length=xs.length
 |[],_,_=>rfl
 |v :: vs,xs,o=>by unfold ovr;rw[EZ vs];simp
theorem EY :∀(vs xs:List NP)(o j:Nat),j<xs.length->(ovr xs o vs)[j]? =if o<=j/\j<o+vs.length then vs[j-o]? else xs[j]?
 |[],xs,o,j,_=>by unfold ovr;rw[NA E9]
 |v :: vs,xs,o,j,hj=>by
  unfold ovr;rw[EY vs _ _ _ (by simpa using hj)];by_cases a:o+1<=j/\j<o+1+vs.length
  .rw[Nz a,Nz F6,show j-o= (j-(o+1))+1 by omega,List.getElem?_cons_succ]
  .rw[NA a];by_cases b:j=o
   .subst b;rw[Nz E9,Nat.sub_self,List.getElem?_cons_zero,Nv hj]
   .rw[NA F6,MI (Ne.symm b)]
variable {base cap g n:Nat}
theorem o_{size:Nat}{e:TypeId}:∀(vs:List NP){w:NN}{xs:List NP}(o:Nat),w.ownsRow base e size (.b g n cap) n xs->(w.setCells g o vs).ownsRow base e size (.b g n cap) n (ovr xs o vs)
 |[],_,_,_,h=>h
 |v :: vs,w,xs,o,h=>by
  rw[World.setCells];unfold ovr;exact o_ vs (o+1) (h.stored o v).1
variable {l:List Q_}{xs:List NP}{i:Nat}
theorem Je{cs:List NP}(b:xs.length=l.length*7)(c:cs.length=7)(j:Nat)(d:j<l.length)(hi:i<l.length):((ovr xs (i*7) cs).drop (j*7)).take 7=if j=i then cs else (xs.drop (j*7)).take 7:=by
 apply List.ext_getElem?;intro k;rw[List.getElem?_take];by_cases a:k<7
 .rw[Nz a,List.getElem?_drop,EY _ _ _ _ (by rw[b];omega),c];by_cases e:j=i
  .subst e;rw[Nz rfl,Nz E5,show j*7+k-j*7=k by omega]
  .rw[NA e,NA E5,List.getElem?_take,Nz a,List.getElem?_drop]
 .rw[NA a];by_cases e:j=i
  .rw[Nz e,List.getElem?_eq_none E5]
  .rw[NA e,List.getElem?_take,NA a]
variable {w:NN}
theorem cO.set{r:Q_}{xa:NM}{xc:Nat}(h:cO w xs l)(hi:i<l.length)(c:eX w 9 xa r.texts)(d:xa=none->xc=0):cO w (ovr xs (i*7) (r.cells xa xc)) (l.set i r):=by
 refine⟨by rw[EZ,Nu];exact h.1,λj a=>?_⟩;rw[Nu] at a;rw[Je h.1 F7 j a hi];by_cases e:j=i
 .subst e;have b:(l.set j r).getD j Q_.zero=r:=by simp[List.getD,a]
  rw[Nz rfl,b];exact⟨xa,xc,rfl,c,d⟩
 .have b:(l.set i r).getD j Q_.zero=l.getD j Q_.zero:=by simp[List.getD,MI (Ne.symm e)]
  rw[NA e,b];exact h.2 j a
theorem cO.one(h:cO w xs l):∀u∈xs,u.oneCell'=true:=λu b=>by
 obtain⟨j,c,rfl⟩:=MB b;have d:j / 7<l.length:=by have:=h.1;omega
 let⟨f,i,e,_⟩:=h.2 (j / 7) d;have a:xs[j]∈(xs.drop (j / 7*7)).take 7:=by
  refine List.mem_iff_getElem?.2 ⟨j % 7,?_⟩;rw[List.getElem?_take,Nz (Nat.mod_lt _ E5),List.getElem?_drop,show j / 7*7+j % 7=j by omega];exact Mq c
 rw[e] at a;exact Q_.one _ _ _ _ a
theorem cO.at(h:cO w xs l)(a:w.ownsRow base 48 7 (.b g n cap) n xs)(hi:i<l.length):∃xa xc,w.rangeAt g (i*7) ((l.getD i Q_.zero).cells xa xc)/\eX w 9 xa (l.getD i Q_.zero).texts/\(xa=none->xc=0)/\w.there g (i*7) 7:=by
 let⟨xa,xc,e,f,k⟩:=h.2 i hi;have m:n=l.length:=by have p:=a.1;have q:=h.1;omega
 refine⟨xa,xc,λj u b=>?_,f,k,λj c=>?_⟩
 .have c:j<7:=by have:=(Mr.1 b).1;simpa[Q_.cells] using this
  have d:((xs.drop (i*7)).take 7)[j]? =some u:=by rw[e];exact b
  rw[List.getElem?_take,Nz c,List.getElem?_drop] at d;have:=a.cells (g:=g) rfl _ _ d;rw[Nf,MR] at this;exact this
 .refine⟨?_,a.frozenAt _⟩;rw[a.cellAt _ E5,Mq (by rw[h.1];omega)]
  rfl
theorem iJ :∀(vs:List NP)(o:Nat)(w:NN),But (λb=>b=g) w (w.setCells g o vs)
 |[],_,w=>But.ax (K_.refl w)
 |v :: vs,o,w=>by
  rw[World.setCells];exact (But.set (S:=λb=>b=g) (But.ax (K_.refl w)) (p:=⟨g,o,none⟩) rfl v).trans (iJ vs (o+1) _)
variable {dc kb:Nat}{a d:NM}
theorem Ct{m:Nat}{k b:Nat}(h:gL w kb a n cap d m dc)(e:w.ownsRow base 48 7 (.b g k b) k xs):kb≠g:=λf=>by
 subst f;exact own_ne h.row e rfl
variable {R:List Q_}
theorem KnZ.other{wz wr:NN}{i m:Nat}{j:List NP}(h:KnZ wz wr wr kb (.slice d R.length dc) a n cap R d dc xs)(f:wr.ownsRow base 48 7 (.b g m i) m j)(l:wz.heap.size<=g)(p:(Value.slice d R.length dc).ownBlock≠some g)(o:Nat)(vs:List NP):KnZ wz (wr.setCells g o vs) (wr.setCells g o vs) kb (.slice d R.length dc) a n cap R d dc xs:=by
 have k:=iJ vs o wr (g:=g);have c:=Ct h.known f;exact⟨aP l vs o h.kw,But.ax (K_.refl _),λ_ e=>.inl e,⟨k.row h.known.row c,(k.cell h.known.row.lt c).trans h.known.web,(k.cell h.known.row.lt c).trans h.known.runs⟩,k.owns h.own (λb e (q:b=g)=>p (by rw[e,q])),h.pack.but k (λb (e:b=g)=>by rw[e];exact dJ f g rfl),h.nl⟩
theorem KnZ.over{wz wr:NN}{r:Q_}{xa:NM}{xc:Nat}(h:KnZ wz wr wr kb (.b g R.length dc) a n cap R (some ⟨g,0,none⟩) dc xs)(hi:i<R.length)(d:eX wr 9 xa r.texts)(f:xa=none->xc=0):KnZ wz (wr.setCells g (i*7) (r.cells xa xc)) (wr.setCells g (i*7) (r.cells xa xc)) kb (.b g (R.set i r).length dc) a n cap (R.set i r) (some ⟨g,0,none⟩) dc (ovr xs (i*7) (r.cells xa xc)):=by
 have k:=iJ (r.cells xa xc) (i*7) wr (g:=g);have c:=Ct h.known h.own;have j:wz.heap.size<=g:=(h.own.lt g rfl).1;have l:∀b,b=g->¬bA wr b 9:=λb e=>by rw[e];exact dJ h.own g rfl
 refine⟨aP j _ _ h.kw,But.ax (K_.refl _),λ_ e=>.inl e,⟨k.row h.known.row c,(k.cell h.known.row.lt c).trans h.known.web,?_⟩,?_,?_,λe=>(by rw[Nu] at e;omega)⟩
 .rw[Nu];exact (k.cell h.known.row.lt c).trans h.known.runs
 .rw[Nu];exact o_ _ _ h.own
 .exact (h.pack.set hi d f).but k l
theorem Tryz.kG :(prog.info? 48).map (·.size)=some 7:=F4
def AllEnd(Kq:List Qz)(Kj:List NL)(a:NM)(cap:Nat)(w w':NN)(e:Ending):Prop:=∃(kb:Nat)(L:List Q_)(d:NM)(dc:Nat)(xs:List NP),e=.returned (.c kb)/\w.heap.size<=kb/\mY Kq Kj L false 0/\KnZ w w' w' kb (.slice d L.length dc) a Kq.length cap L d dc xs
structure vg (w wr:NN)(kb:Nat)(a:NM)(n cap:Nat)(L R nx:List Q_)(d:NM)(dc:Nat)(xs:List NP)(g nc:Nat)(ys:List NP):Prop where
 kn:KnZ w wr wr kb (.slice d R.length dc) a n cap R d dc xs
 own:wr.ownsRow w.heap.size 48 7 (.b g L.length nc) L.length ys
 pack:cO wr ys nx
 ne:(Value.slice d R.length dc).ownBlock≠some g
variable {L nx:List Q_}
theorem vg.kept{wr w':NN}{nc:Nat}{c:List NP}(h:vg w wr kb a n cap L R nx d dc xs g nc c)(k:K_ wr w'):vg w w' kb a n cap L R nx d dc xs g nc c:=⟨(h.kn.kept k).again,au h.own k,h.pack.kept k,h.ne⟩
variable {Kq:List Qz}
theorem JJ{b:Bool}(h:lJ Kq L R nx i b):nx.length=L.length/\L.length<=R.length:=by
 let⟨F,c,_⟩:=h.pre;exact⟨h.len,by rw[c,M_];omega⟩
theorem Ke{b:Bool}(h:lJ Kq L R nx i b){j:Nat}(c:j<L.length):R.getD j Q_.zero=L.getD j Q_.zero:=by
 let⟨F,d,_⟩:=h.pre;rw[d];simp[List.getD,Np c]
theorem Gc(e:bH (Kk Kq)){b:Bool}(h:lJ Kq L R nx i b)(f:dz Kq (Qq L)):dz Kq (Qq R):=by
 let⟨F,j,k⟩:=h.pre;intro n r a;rw[j,lg] at a;cases c:Qq L n with
 |some x=>rw[c] at a;cases a;exact f n _ c
 |none=>
  rw[c] at a;have d:=aZ a;let⟨l,m⟩:=k r d.1;refine⟨d.2,?_⟩;rw[l];exact gP e m
theorem Gs(a:(R.map (·.name)).Nodup)(c:∀r∈R,(Kk Kq r.name).isSome=true):R.length<=Kq.length:=by
 have:=List.Nodup.length_le_of_subset a (λn a=>by
  obtain⟨r,d,rfl⟩:=MM.1 a;exact l_ (c r d):∀n∈R.map (·.name),n∈Kq.map (·.name))
 simpa using this
theorem Ji{b:Bool}(h:lJ Kq L R nx i b)(c:ClT (Kk Kq) (Qq L)):R.length<=Kq.length:=by
 refine Gs h.dif λr a=>?_;let⟨F,d,e⟩:=h.pre;rw[d] at a;rcases Mv.1 a with g|g
 .exact c.web _ _ (gG h.nd.2 g)
 .exact (e r g).2
theorem Jq(a:bH (Kk Kq)){σ:Env}(b:dz Kq σ){n:NL}(c:(Kk Kq n).isSome=true){k:Nat}(d:∀j,j<k->aS (Kk Kq) σ (aJ (Kk Kq) σ n j).1):(aJ (Kk Kq) σ n k).2.length<=110:=by
 have e:=rM a b c d;have f:=Bj a b c d;omega
theorem uu{c:Nat}(h:w.ownsRow base 48 7 (.slice d n c) n xs)(a:0<n):∃g,d=some ⟨g,0,none⟩:=by
 rcases h.2 with⟨e,b⟩|⟨g,f,i,e,_⟩
 .omega
 .cases e;exact⟨g,rfl⟩
theorem GL(w:NN)(a:NM)(cap:Nat)(Kq:List Qz)(ra:NM)(rc:Nat)(Kj:List NL)(i2:Kq.length<=60)(k8:∀y∈Kq,y.Fits)(k9:jl Kq)(c5:bH (Kk Kq))(n6:Kj.length<=10)(hN:bQ w a Kq)(hR:Strs w ra Kj):Calls prog 59 #[.agg #[.slice a Kq.length cap],.slice ra Kj.length rc] w λe w'=>AllEnd Kq Kj a cap w w' e:=by
 let⟨W1,d0⟩:=aj ((w.alloc (.cells #[.slice a Kq.length cap] 25)).alloc (.cells #[.slice a Kq.length cap,M3] 106));have k1:K_ w W1:=by rw[d0];exact (ah _ _).alloc _
 let⟨p,f4⟩:=aj (w.heap.size+1);have d2:w.heap.size<=p:=E5;have i3:Hid (gL W1 p a Kq.length cap none 0 0):=by
  have hr:ay W1 p 106 2:=by
   have h:=ay.made (w.alloc (.cells #[.slice a Kq.length cap] 25)) #[.slice a Kq.length cap,M3] 106;rw[MZ] at h;rw[d0,f4];exact h
  have h2:=yN (w:=w.alloc (.cells #[.slice a Kq.length cap] 25)) (v0:=.slice a Kq.length cap) (v1:= M3) (t:=106) (w1:=W1) (by rw[d0];exact K_.refl _);rw[MZ,<-f4] at h2;exact⟨hr,h2.1,h2.2⟩
 have i4:Hid (KnZ w W1 W1 p (.slice none ([]:List Q_).length 0) a Kq.length cap [] none 0 []):=⟨k1,But.ax (K_.refl _),λ_ e=>(by cases e),i3.o,Nj _ _ _ _,cO.nil _,λ_=>⟨rfl,rfl⟩⟩;have a6:Hid (Hq W1 (λb=>b=p\/(Value.slice none ([]:List Q_).length 0).ownBlock=some b) ra Kj):=λi hi=>by
  let⟨b,o,ha,hb,hc⟩:=hR i hi;refine⟨b,o,ha,Mk hb k1.size,?_,(k1.cell hb).trans hc⟩;rintro (e|e)
  .omega
  .cases e
 have l0:=(xx (w:=w) (v:=.slice a Kq.length cap) (t:=25) (w1:=w.alloc (.cells #[.slice a Kq.length cap] 25)) (K_.refl _)).1;go_enter func59,ntmps59
 go_upto_region 2 with fail
 rw[<-d0,<-f4];clear d0 f4 l0;go_wp2_with fail
 refine (qA w W1 p d2 a cap Kq ra rc Kj [] none 0 [] E5 E5 E9 i4.o hN a6.o).mono ?_;rintro e w1 ⟨rfl,d1,l1,l2,hZ⟩;have G:=Kz hZ.again;clear hZ i4 a6 i3 k1;go_wp2
 go_loopg [6] (dD (Kq.map (·.name)) (Qq (bT (Kk Kq) [] Kj))+1) (λgg x6 wr=>∃(ag:Bool)(L:List Q_)(b0:NM)(r:Nat)(s:List NP),x6=.bool ag/\Hid (mY Kq Kj L ag gg)/\Hid (KnZ w wr wr p (.slice b0 L.length r) a Kq.length cap L b0 r s))
 case atStart=>exact⟨true,bT (Kk Kq) [] Kj,d1,l1,l2,rfl,Kz (mY.start c5 Kj),G⟩
 case round=>
  clear G;obtain⟨ag,L,b0,r,s,rfl,T,G⟩:=hrel;have l3:=Mm T.o.len i2;cases ag
  .have l4:Hid (mY Kq Kj L false 0):=by
    have h:=T.o;have e:=h.gg;rw[NA E9] at e;rw[e] at h;exact h
   go_wp2
   go_ret
   exact⟨p,L,b0,r,s,rfl,d2,l4.o,G.o⟩
  have U:=G.o.known.runs;have zk:=G.o.known.row.lt;by_cases i5:L.length=0
  .have l5:L=[]:=MF.1 i5;subst l5;have hd:b0=none/\r=0:=G.o.nl rfl;obtain⟨rfl,rfl⟩:=hd;have f6:Hid (KnZ w (wr.alloc (.cells #[] 48)) (wr.alloc (.cells #[] 48)) p (.slice none ([]:List Q_).length 0) a Kq.length cap [] none 0 s):=(G.o.kept (ah _ _)).again;have a7:Hid (mY Kq Kj [] false 0):=⟨T.o.nd,T.o.good,T.o.led,λ_ n7 ⟨n8,hr,_⟩=>(by cases hr),rfl⟩;have l6:0<gk:=by have e:=T.o.gg;rw[Nz rfl] at e;omega
   clear i5 l3;simp only[List.length_nil] at U;go_wp2
   go_loopw [6,9] (λx6 x9 wq=>x6=.bool false/\x9=.a 0/\wq=wr.alloc (.cells #[] 48)) (λ_ _ _=>0)
   case atStart=>exact⟨rfl,rfl,rfl⟩
   case round=>
    obtain⟨rfl,rfl,rfl⟩:=hrel;have l7:=f6.o.known.runs;have n9:=f6.o.known.row.lt;simp only[List.length_nil] at l7;go_wp2
    go_loopw [12] (λa9 wq=>a9=.a 0/\wq=wr.alloc (.cells #[] 48)) (λ_ _=>0)
    case atStart=>exact⟨rfl,rfl⟩
    case round=>
     obtain⟨rfl,rfl⟩:=hrel;go_wp2
     go_roundg 0
     case measure=>exact l6
     case rel=>exact⟨false,[],none,0,s,rfl,a7,f6⟩
  have i6:0<L.length:=E5;obtain⟨g0,rfl⟩:=uu G.o.own i6;let⟨eb,f5⟩:=aj wr.heap.size;let⟨WE,d3⟩:=aj (wr.alloc (.cells #[] 48));have kE:K_ wr WE:=by rw[d3];exact ah _ _
  have f7:Hid (WE.ownsRow w.heap.size 48 7 (.b eb 0 0) 0 []):=by
   rw[d3,f5];exact MQ wr #[] 0 G.o.kw.size (Ml _) rfl
  have i7:WE.heap.size=wr.heap.size+1:=by rw[d3];simp
  have c6:=Kz (G.o.kept kE).again;have l8:=c6.o.known.runs;have l9:=c6.o.known.row.lt;have m0:g0<wr.heap.size:=(G.o.own.lt g0 rfl).2;have i8:s.length=L.length*7:=G.o.pack.1;have i9:Hid (∀j u,s[j]? =some u->WE.cell? ((⟨g0,0,none⟩:Addr).add j)=some u):=c6.o.own.cells rfl;have j0:Hid (∀u∈s,u.oneCell'=true):=G.o.pack.one;let⟨ic,m1,m2,m3,m4⟩:=aW Tryz.tH;have j1:w.heap.size<=WE.heap.size:=Mm G.o.kw.size kE.size;have m5:eb=wr.heap.size:=f5;have m6:g0<eb:=E5;have m7:p<wr.heap.size:=zk;go_upto_region 7 with fail
  go_wp2_with (at_builtin;rw[<-d3,<-f5];refine wpList_append_lies _ rfl (.tmp 25) (.tmp 29) 41 rfl w.heap.size 48 ic _ 7 80 underlying41 m1 m2 m3 m4 rfl E8 (.b eb 0 0) 0 [] rfl f7.o ⟨g0,0,none⟩ L.length r s rfl i8 i9.o j0.o i6 F5 E5 j1 (wr.heap.size+1) i7 ?_;intro c V w6 f8 j2 j3 m8;rw[MR,List.nil_append] at f8;have f9:=Kz f8;have j4:=Kz j2;have j5:=Kz j3;clear f8 j2 j3)
  have m9:g0<c:=by
   rcases j5.o with e|e
   .simp only[Value.ownBlock,Na] at e;omega
   .omega
  have g1:Hid (But (λb=>b=eb) WE w6):=But.aI j4.o (λb e=>by simp only[Value.ownBlock,Na] at e;exact e.symm);have j6:Hid (vg w w6 p a Kq.length cap L L L (some ⟨g0,0,none⟩) r s c V s):=by
   have j7:∀b,b=eb->¬bA WE b 9:=λb e=>by rw[e];exact dJ f7.o eb rfl
   have n0:=c6.o.but g1.o (λb e=>by rw[e];have:=G.o.kw.size;omega) (λ(e:p=eb)=>E5) (λb e=>by simp only[Value.ownBlock,Na] at e;omega) j7;exact⟨n0,f9.o,c6.o.pack.but g1.o j7,λe=>by simp only[Value.ownBlock,Na] at e;omega⟩
  have j8:Hid (lJ Kq L L L 0 false):=lJ.start T.o.nd;have g2:=Kz T.o.cl;have g3:w.heap.size<=c:=(f9.o.lt c rfl).1;clear U m5 m6 m7 f5 d3 i7 kE f7 c6 l8 l9 i9 j0 f9 j4 j5 g1 i8 zk m0 j1 m8 m9;go_wp2
  go_loopw [6,9] (λx6 x9 wr=>∃(i:Nat)(b:Bool)(R x:List Q_)(b0:NM)(r:Nat)(s J:List NP),i<=L.length/\x9=.a (i:Int)/\x6=.bool b/\Hid (lJ Kq L R x i b)/\Hid (vg w wr p a Kq.length cap L R x b0 r s c V J)) (λ_ x9 _=>L.length-(intOf x9).toNat)
  case atStart=>exact⟨0,false,L,L,some ⟨g0,0,none⟩,r,s,s,Ml _,rfl,rfl,j8,j6⟩
  case round=>
   clear j6 j8 G;obtain⟨i,b,R,x,b0,r,s,J,hi,rfl,rfl,a6,n⟩:=hrel;let⟨W,o0⟩:=JJ a6.o;have o1:=Mm (Ji a6.o g2.o) i2;obtain⟨g,rfl⟩:=uu n.o.kn.own E5;have U:=n.o.kn.known.runs;have zk:=n.o.kn.known.row.lt;have Z:g<wr.heap.size:=(n.o.kn.own.lt g rfl).2;by_cases F:i<L.length
   .have j9:(i:Int)<(L.length:Int):=E5;have n1:i<R.length:=E5;have o2:(i:Int)<(R.length:Int):=E5;let⟨C,D,B,_,_,_⟩:=n.o.kn.pack.at n.o.kn.own n1;let⟨q,X⟩:=aj (L.getD i Q_.zero);rw[Ke a6.o F,<-X] at B;have t0:=B 0 _ rfl;have t1:=B 1 _ rfl;have t5:=B 5 _ rfl;rw[Ng] at t0;have g4:=Kz (Gc c5 a6.o T.o.good);have k0:Hid ((Kk Kq q.name).isSome=true):=g2.o.web _ _ (gG T.o.nd (by rw[X];exact j_ F));have HQ:=Kz X;clear B X;go_wp2_with fail
    refine (GK wr p a cap Kq (some ⟨g,0,none⟩) r R q.name E5 E5 k9 c5 k8 g4.o k0.o n.o.kn.known (hN.kept n.o.kn.kw) n.o.kn.runs).mono ?_;rintro e w3 ⟨⟨kk,xa,xc,qa,qc,rfl,g5,k2,⟨g6,k3,g7⟩,_⟩,g8⟩;let⟨m,d4⟩:=aj ((aJ (Kk Kq) (Qq R) q.name kk).1);let⟨Q,d5⟩:=aj ((aJ (Kk Kq) (Qq R) q.name kk).2);have c7:Hid (∀b':Bool,b'= (b || decide (m.Zq≠q.Zq) || decide (m.over≠q.over))->lJ Kq L (bT (Kk Kq) R Q) (x.set i m) (i+1) b'):=λb' a8=>by
     rw[d4,d5];rw[d4] at a8;exact a6.o.next g2.o F (by rw[HQ.o]) g5 k2 (by rw[<-HQ.o];exact a8)
    have g9:Hid (Q.length<=110):=by show Q.length<=110;rw[d5];exact Jq c5 g4.o k0.o g5
    rw[<-d4,<-d5];rw[<-d4] at g6;rw[<-d5] at g7;let⟨Y,d6⟩:=aj (w3.alloc (.cells #[.string m.name,.bool m.over,.bool m.fail,.string m.text,.a m.at',.a m.Zq,.slice xa m.texts.length xc] 48));have k4:K_ w3 Y:=by rw[d6];exact ah _ _
    let⟨pb,d8⟩:=aj w3.heap.size;have b1:Hid (Y.rangeAt pb 0 (m.cells xa xc)):=by
     have h:=X_ w3 #[.string m.name,.bool m.over,.bool m.fail,.string m.text,.a m.at',.a m.Zq,.slice xa m.texts.length xc] 48;rw[<-d6,<-d8] at h;exact λj u hu=>h j u hu
    have h0:pb<Y.heap.size:=by rw[d6,d8];simp
    have o3:wr.heap.size<=pb:=by rw[d8];exact g8.size
    have K4:=g8.trans k4;have b2:=Kz (n.o.kept K4);have c8:=Kz (g6.but (But.ax (S:=λ_=>False) k4) λ_ e=>e.elim);have c9:=Kz (g7.but (But.ax (S:=λ_=>False) k4) λ_ e=>e.elim);have h1:=Kz k3;have p1:Y.cell? ⟨pb,1,none⟩=some (.bool m.over):=by have:=b1.o 1 _ rfl;rw[MR] at this;exact this
    have p5:Y.cell? ⟨pb,5,none⟩=some (.a m.Zq):=by have:=b1.o 5 _ rfl;rw[MR] at this;exact this
    have h3:=b2.o.kn.known.runs;have o4:=b2.o.kn.known.row.lt;have o5:g<Y.heap.size:=Mk Z K4.size;have s1:=(K4.cell Z).trans t1;have s5:=(K4.cell Z).trans t5;simp only[Q_.cells];clear g6 g7 k3 g5 k2 d4 d5 t0 t1 t5 U n g4;go_upto_region 12 with fail
    rw[<-d6,<-d8];clear d6 d8 g8 k4 K4;cases b
    .by_cases hv:m.Zq=q.Zq
     .have n2:(m.Zq != q.Zq)=false:=by simp[hv]
      have d9:=Kz (c7.o (!m.over == q.over) (by rw[hv];cases m.over<;>cases q.over<;>simp));clear hv c7;go_region
      let⟨k,a0⟩:=aj Y.drew;rw[<-a0];have z:K_ Y k:=by rw[a0];exact (aY _)
      have d:=Kz (b2.o.kept z);let⟨f,E⟩:=aj (m.cells xa xc);have e0:=Kz E;have b3:Hid (k.rangeAt pb 0 f):=λj u hu=>by rw[E] at hu;exact (z.cell h0).trans (b1.o j u hu)
      have b4:Hid ((prog.info? 48).map (·.size)=some f.length):=by rw[E];exact Tryz.kG
      have b5:Hid ((prog.info? 48).map (·.size)=some f.toArray.size):=by rw[E];exact Tryz.kG
      have O:Hid (k.there c (i*7) f.toArray.size):=by
       let⟨_,_,_,_,_,h⟩:=d.o.pack.at d.o.own (i:=i) (by rw[W];exact F);rw[E];exact h
      have a7:Hid (f.toArray.all (·.oneCell')=true):=by rw[E];exact all_oneCell_toArray (Q_.one m xa xc)
      have e1:c<k.heap.size:=(d.o.own.lt c rfl).2;clear E a0;go_upto_region 14 with (first|(refine wpList_load_mid rfl 48 (.tmp 10) rfl pb 0 rfl f _ b3.o underlying48 rfl b4.o ?_)|(refine wpList_store_mid rfl 48 (.tmp 79) (.tmp 78) rfl c (i*7) f.toArray rfl rfl O.o b5.o a7.o ?_;rw[List.toList_toArray]))
      let⟨A,H⟩:=aj (k.setCells c (i*7) f);rw[<-H];have a1:But (λb=>b=c) k A:=by rw[H];exact iJ f (i*7) k
      have a2:∀b,b=c->¬bA k b 9:=λb e=>by rw[e];exact dJ d.o.own c rfl
      have P:Hid (KnZ w A A p (.b g R.length r) a Kq.length cap R (some ⟨g,0,none⟩) r s):=by rw[H];exact d.o.kn.other d.o.own g3 d.o.ne (i*7) f
      have a3:Hid (A.ownsRow w.heap.size 48 7 (.b c L.length V) L.length (ovr J (i*7) f)):=by rw[H];exact o_ f (i*7) d.o.own
      have b6:Hid (cO A (ovr J (i*7) f) (x.set i m)):=by
       rw[e0.o];refine (d.o.pack.set (by rw[W];exact F) (c8.o.but (But.ax (S:=λ_=>False) z) λ_ e=>e.elim) h1.o).but a1 a2
      have b7:Hid (eX A 9 qa Q):=(c9.o.but (But.ax (S:=λ_=>False) z) λ_ e=>e.elim).but a1 a2;have k5:c<A.heap.size:=(a3.o.lt c rfl).2;have a4:Hid (∀b,(b=p\/(Value.slice (some ⟨g,0,none⟩) R.length r).ownBlock=some b)->¬bA A b 9):=λb e=>by
       rcases e with e|e
       .rw[e];exact λht=>aU P.o.known.row.type ht E8 rfl
       .exact dJ P.o.own b e
      have b8:=Kz d.o.ne;have e3:Hid (p≠c):=Ct d.o.kn.known d.o.own;clear H a1 a2 d b2 b3 b4 b5 O a7 c8 c9 b1 e1 z p1 p5 h3 s1 s5;go_wp2_with fail
      refine (qA w A p d2 a cap Kq qa qc Q R (some ⟨g,0,none⟩) r s E5 g9.o E5 P.o hN (b7.o.nst a4.o)).mono ?_;rintro e w7 ⟨rfl,d7,b9,c0,I⟩;have e4:Hid (vg w w7 p a Kq.length cap L (bT (Kk Kq) R Q) (x.set i m) d7 b9 c0 c V (ovr J (i*7) f)):=by
       refine⟨I.again,I.fr.owns a3.o λb e=>?_,b6.o.but I.fr a4.o,λe=>?_⟩
       .simp only[Value.ownBlock,Na] at e;subst e;rintro (h|h)
        .exact e3.o h.symm
        .exact b8.o h
       .rcases I.nw c e with h|h
        .exact b8.o h
        .omega
      clear I P a3 b6 b7 a4;go_wp2
      go_roundw
      case rel=>exact⟨i+1,_,bT (Kk Kq) R Q,x.set i m,d7,b9,c0,_,E5,F3,rfl,d9,e4⟩
      case measure=>simp[intOf];omega
     .have n2:(m.Zq != q.Zq)=true:=by simp[hv]
      have d9:=Kz (c7.o true (by simp[hv]));clear hv c7;go_region
      let⟨k,a0⟩:=aj Y.drew;rw[<-a0];have z:K_ Y k:=by rw[a0];exact (aY _)
      have d:=Kz (b2.o.kept z);let⟨f,E⟩:=aj (m.cells xa xc);have e0:=Kz E;have b3:Hid (k.rangeAt pb 0 f):=λj u hu=>by rw[E] at hu;exact (z.cell h0).trans (b1.o j u hu)
      have b4:Hid ((prog.info? 48).map (·.size)=some f.length):=by rw[E];exact Tryz.kG
      have b5:Hid ((prog.info? 48).map (·.size)=some f.toArray.size):=by rw[E];exact Tryz.kG
      have O:Hid (k.there c (i*7) f.toArray.size):=by
       let⟨_,_,_,_,_,h⟩:=d.o.pack.at d.o.own (i:=i) (by rw[W];exact F);rw[E];exact h
      have a7:Hid (f.toArray.all (·.oneCell')=true):=by rw[E];exact all_oneCell_toArray (Q_.one m xa xc)
      have e1:c<k.heap.size:=(d.o.own.lt c rfl).2;clear E a0;go_upto_region 14 with (first|(refine wpList_load_mid rfl 48 (.tmp 10) rfl pb 0 rfl f _ b3.o underlying48 rfl b4.o ?_)|(refine wpList_store_mid rfl 48 (.tmp 79) (.tmp 78) rfl c (i*7) f.toArray rfl rfl O.o b5.o a7.o ?_;rw[List.toList_toArray]))
      let⟨A,H⟩:=aj (k.setCells c (i*7) f);rw[<-H];have a1:But (λb=>b=c) k A:=by rw[H];exact iJ f (i*7) k
      have a2:∀b,b=c->¬bA k b 9:=λb e=>by rw[e];exact dJ d.o.own c rfl
      have P:Hid (KnZ w A A p (.b g R.length r) a Kq.length cap R (some ⟨g,0,none⟩) r s):=by rw[H];exact d.o.kn.other d.o.own g3 d.o.ne (i*7) f
      have a3:Hid (A.ownsRow w.heap.size 48 7 (.b c L.length V) L.length (ovr J (i*7) f)):=by rw[H];exact o_ f (i*7) d.o.own
      have b6:Hid (cO A (ovr J (i*7) f) (x.set i m)):=by
       rw[e0.o];refine (d.o.pack.set (by rw[W];exact F) (c8.o.but (But.ax (S:=λ_=>False) z) λ_ e=>e.elim) h1.o).but a1 a2
      have b7:Hid (eX A 9 qa Q):=(c9.o.but (But.ax (S:=λ_=>False) z) λ_ e=>e.elim).but a1 a2;have k5:c<A.heap.size:=(a3.o.lt c rfl).2;have a4:Hid (∀b,(b=p\/(Value.slice (some ⟨g,0,none⟩) R.length r).ownBlock=some b)->¬bA A b 9):=λb e=>by
       rcases e with e|e
       .rw[e];exact λht=>aU P.o.known.row.type ht E8 rfl
       .exact dJ P.o.own b e
      have b8:=Kz d.o.ne;have e3:Hid (p≠c):=Ct d.o.kn.known d.o.own;clear H a1 a2 d b2 b3 b4 b5 O a7 c8 c9 b1 e1 z p1 p5 h3 s1 s5;go_wp2_with fail
      refine (qA w A p d2 a cap Kq qa qc Q R (some ⟨g,0,none⟩) r s E5 g9.o E5 P.o hN (b7.o.nst a4.o)).mono ?_;rintro e w7 ⟨rfl,d7,b9,c0,I⟩;have e4:Hid (vg w w7 p a Kq.length cap L (bT (Kk Kq) R Q) (x.set i m) d7 b9 c0 c V (ovr J (i*7) f)):=by
       refine⟨I.again,I.fr.owns a3.o λb e=>?_,b6.o.but I.fr a4.o,λe=>?_⟩
       .simp only[Value.ownBlock,Na] at e;subst e;rintro (h|h)
        .exact e3.o h.symm
        .exact b8.o h
       .rcases I.nw c e with h|h
        .exact b8.o h
        .omega
      clear I P a3 b6 b7 a4;go_wp2
      go_roundw
      case rel=>exact⟨i+1,_,bT (Kk Kq) R Q,x.set i m,d7,b9,c0,_,E5,F3,rfl,d9,e4⟩
      case measure=>simp[intOf];omega
    .have d9:=Kz (c7.o true E9);clear c7;go_region
     let⟨k,a0⟩:=aj Y.drew;rw[<-a0];have z:K_ Y k:=by rw[a0];exact (aY _)
     have d:=Kz (b2.o.kept z);let⟨f,E⟩:=aj (m.cells xa xc);have e0:=Kz E;have b3:Hid (k.rangeAt pb 0 f):=λj u hu=>by rw[E] at hu;exact (z.cell h0).trans (b1.o j u hu)
     have b4:Hid ((prog.info? 48).map (·.size)=some f.length):=by rw[E];exact Tryz.kG
     have b5:Hid ((prog.info? 48).map (·.size)=some f.toArray.size):=by rw[E];exact Tryz.kG
     have O:Hid (k.there c (i*7) f.toArray.size):=by
      let⟨_,_,_,_,_,h⟩:=d.o.pack.at d.o.own (i:=i) (by rw[W];exact F);rw[E];exact h
     have a7:Hid (f.toArray.all (·.oneCell')=true):=by rw[E];exact all_oneCell_toArray (Q_.one m xa xc)
     have e1:c<k.heap.size:=(d.o.own.lt c rfl).2;clear E a0;go_upto_region 14 with (first|(refine wpList_load_mid rfl 48 (.tmp 10) rfl pb 0 rfl f _ b3.o underlying48 rfl b4.o ?_)|(refine wpList_store_mid rfl 48 (.tmp 79) (.tmp 78) rfl c (i*7) f.toArray rfl rfl O.o b5.o a7.o ?_;rw[List.toList_toArray]))
     let⟨A,H⟩:=aj (k.setCells c (i*7) f);rw[<-H];have a1:But (λb=>b=c) k A:=by rw[H];exact iJ f (i*7) k
     have a2:∀b,b=c->¬bA k b 9:=λb e=>by rw[e];exact dJ d.o.own c rfl
     have P:Hid (KnZ w A A p (.b g R.length r) a Kq.length cap R (some ⟨g,0,none⟩) r s):=by rw[H];exact d.o.kn.other d.o.own g3 d.o.ne (i*7) f
     have a3:Hid (A.ownsRow w.heap.size 48 7 (.b c L.length V) L.length (ovr J (i*7) f)):=by rw[H];exact o_ f (i*7) d.o.own
     have b6:Hid (cO A (ovr J (i*7) f) (x.set i m)):=by
      rw[e0.o];refine (d.o.pack.set (by rw[W];exact F) (c8.o.but (But.ax (S:=λ_=>False) z) λ_ e=>e.elim) h1.o).but a1 a2
     have b7:Hid (eX A 9 qa Q):=(c9.o.but (But.ax (S:=λ_=>False) z) λ_ e=>e.elim).but a1 a2;have k5:c<A.heap.size:=(a3.o.lt c rfl).2;have a4:Hid (∀b,(b=p\/(Value.slice (some ⟨g,0,none⟩) R.length r).ownBlock=some b)->¬bA A b 9):=λb e=>by
      rcases e with e|e
      .rw[e];exact λht=>aU P.o.known.row.type ht E8 rfl
      .exact dJ P.o.own b e
     have b8:=Kz d.o.ne;have e3:Hid (p≠c):=Ct d.o.kn.known d.o.own;clear H a1 a2 d b2 b3 b4 b5 O a7 c8 c9 b1 e1 z p1 p5 h3 s1 s5;go_wp2_with fail
     refine (qA w A p d2 a cap Kq qa qc Q R (some ⟨g,0,none⟩) r s E5 g9.o E5 P.o hN (b7.o.nst a4.o)).mono ?_;rintro e w7 ⟨rfl,d7,b9,c0,I⟩;have e4:Hid (vg w w7 p a Kq.length cap L (bT (Kk Kq) R Q) (x.set i m) d7 b9 c0 c V (ovr J (i*7) f)):=by
      refine⟨I.again,I.fr.owns a3.o λb e=>?_,b6.o.but I.fr a4.o,λe=>?_⟩
      .simp only[Value.ownBlock,Na] at e;subst e;rintro (h|h)
       .exact e3.o h.symm
       .exact b8.o h
      .rcases I.nw c e with h|h
       .exact b8.o h
       .omega
     clear I P a3 b6 b7 a4;go_wp2
     go_roundw
     case rel=>exact⟨i+1,_,bT (Kk Kq) R Q,x.set i m,d7,b9,c0,_,E5,F3,rfl,d9,e4⟩
     case measure=>simp[intOf];omega
   .have k6:¬((i:Int)<(L.length:Int)):=E5;have n3:i=L.length:=E5;subst n3;have k7:((R.length:Int) > (L.length:Int))↔L.length<R.length:=E5;clear F hi;cases b
    .have n4:=k7;let⟨b',a8⟩:=aj ((false || decide (L.length<R.length)));have e5:=Kz (T.o.next c5 a6.o a8);have h4:Hid (Value.bool (decide (L.length<R.length))=Value.bool b'):=by show _=_;rw[a8];simp
     clear a8;go_wp2
     go_loopw [12] (λa9 wr=>∃(i:Nat)(M:List Q_)(s:List NP),i<=L.length/\a9=.a (i:Int)/\Hid (M=x.take i++R.drop i)/\Hid (vg w wr p a Kq.length cap L M x (some ⟨g,0,none⟩) r s c V J)) (λa9 _=>L.length-(intOf a9).toNat)
     case atStart=>exact⟨0,R,s,Ml _,rfl,by simp[Hid],n⟩
     case round=>
      clear n U zk Z;obtain⟨i,M,s,hi,rfl,HM,n⟩:=hrel;have c1:M.length=R.length:=by rw[HM.o,M_,ML,List.length_drop];omega
      have U:=n.o.kn.known.runs;have zk:=n.o.kn.known.row.lt;have Z:g<wr.heap.size:=(n.o.kn.own.lt g rfl).2;by_cases F:i<L.length
      .have j9:(i:Int)<(L.length:Int):=E5;have n5:(i:Int)<(M.length:Int):=E5;have e6:i<M.length:=E5;have h5:=Kz c1;clear c1;let⟨C,D,B,c2,e7,_⟩:=n.o.pack.at n.o.own (i:=i) (by rw[W];exact F);let⟨_,_,_,_,_,e8⟩:=n.o.kn.pack.at n.o.kn.own e6;let⟨q,X⟩:=aj (x.getD i Q_.zero);rw[<-X] at B c2;have t0:=B 0 _ rfl;have t1:=B 1 _ rfl;have t2:=B 2 _ rfl;have t3:=B 3 _ rfl;have t4:=B 4 _ rfl;have t5:=B 5 _ rfl;have t6:=B 6 _ rfl;rw[Ng] at t0;have N:c<wr.heap.size:=(n.o.own.lt c rfl).2;have h6:Hid (M.set i q=x.take (i+1)++R.drop (i+1)):=by
        show _=_;have e9:i<x.length:=by rw[W];exact F
        have h7:(x.take i).length=i:=H6;have c1:=h5.o;rw[HM.o,List.set_append_right _ _ E5,h7,Nat.sub_self,Nw (l:=R) (i:=i) E5,List.set_cons_zero,Ms e9,List.append_assoc,X];simp[List.getD,e9]
       have⟨h8,h9,O⟩:=di c2 e7 e8;have i0:Hid (∀u,K_ wr u->M4 u p 1 (.b g M.length r)/\M4 u c (i*7) (.string q.name)/\M4 u c (i*7+1) (.bool q.over)/\M4 u c (i*7+2) (.bool q.fail)/\M4 u c (i*7+3) (.string q.text)/\M4 u c (i*7+4) (.a q.at')/\M4 u c (i*7+5) (.a q.Zq)/\M4 u c (i*7+6) (.slice C q.texts.length D)):=λu K=>⟨(K.cell zk).trans U,(K.cell N).trans t0,(K.cell N).trans t1,(K.cell N).trans t2,(K.cell N).trans t3,(K.cell N).trans t4,(K.cell N).trans t5,(K.cell N).trans t6⟩
       clear X B c2 e7 e8 t0 t1 t2 t3 t4 t5 t6;go_upto_region 19 with fail
       refine bF 10 i0.o λk z a5=>?_
       refine ak 0 a5 ?_;refine ak 4 a5 ?_;refine ae 8 a5 ?_;refine ae 9 a5 ?_;have d:=Kz (n.o.kept z);have f0:k.there g (i*7) 7:=λj hj=>⟨by rw[z.cell Z];exact (O.o j hj).1,(z.rules.2 g (i*7+j) Z).trans (O.o j hj).2⟩
       refine aG 10 λK hK=>?_;refine wp_store_mid 48 _ _ rfl g (i*7) #[.string q.name,.bool q.over,.bool q.fail,.string q.text,.a q.at',.a q.Zq,.slice C q.texts.length D] F7 F7 f0 F4 (all_oneCell_toArray (Q_.one q C D)) ?_;refine af hK (λh=>NB rfl h) ?_;clear hK K f0;refine aC ?_;have f1:Hid (KnZ w (k.setCells g (i*7) (q.cells C D)) (k.setCells g (i*7) (q.cells C D)) p (.b g (M.set i q).length r) a Kq.length cap (M.set i q) (some ⟨g,0,none⟩) r (ovr s (i*7) (q.cells C D))):=d.o.kn.over e6 (h8.o.but (But.ax (S:=λ_=>False) z) λ_ e=>e.elim) h9.o;have c3:=iJ (q.cells C D) (i*7) k (g:=g);have f2:Hid (vg w (k.setCells g (i*7) (q.cells C D)) p a Kq.length cap L (M.set i q) x (some ⟨g,0,none⟩) r (ovr s (i*7) (q.cells C D)) c V J):=by
        refine⟨f1.o,c3.owns d.o.own λb e (e2:b=g)=>?_,d.o.pack.but c3 (λb e=>by rw[e];exact dJ d.o.kn.own g rfl),?_⟩
        .simp only[Value.ownBlock,Na] at e;exact d.o.ne (by simp only[Value.ownBlock,Na];omega)
        .have h:=d.o.ne;simpa[Value.ownBlock] using h
       let⟨W9,c4⟩:=aj (k.setCells g (i*7) (q.cells C D));have f3:k.setCells g (i*7) [.string q.name,.bool q.over,.bool q.fail,.string q.text,.a q.at',.a q.Zq,.slice C q.texts.length D]=W9:=c4.symm;rw[f3];rw[<-c4] at f2;clear c4 f3 f1 c3 d n z U a5;go_wp2
       go_roundw
       case rel=>exact⟨i+1,M.set i q,_,E5,F3,h6,f2⟩
       case measure=>simp[intOf];omega
      .have k6:¬((i:Int)<(L.length:Int)):=E5;have i1:Hid (M=x++R.drop L.length):=by
        show _=_;rw[HM.o,show i=L.length by omega,<-W,MS]
       clear F;go_wp2
       go_roundg (if b'=true then dD (Kq.map (·.name)) (Qq (x++R.drop L.length))+1 else 0)
       case measure=>exact e5.o.2
       case rel=>exact⟨b',M,some ⟨g,0,none⟩,r,s,h4.o,by rw[i1.o];exact e5.o.1,n.o.kn⟩
    .have n4:=k7;let⟨b',a8⟩:=aj ((true || decide (L.length<R.length)));have e5:=Kz (T.o.next c5 a6.o a8);have h4:Hid (Value.bool true=Value.bool b'):=by rw[a8];rfl
     clear a8;go_wp2
     go_loopw [12] (λa9 wr=>∃(i:Nat)(M:List Q_)(s:List NP),i<=L.length/\a9=.a (i:Int)/\Hid (M=x.take i++R.drop i)/\Hid (vg w wr p a Kq.length cap L M x (some ⟨g,0,none⟩) r s c V J)) (λa9 _=>L.length-(intOf a9).toNat)
     case atStart=>exact⟨0,R,s,Ml _,rfl,by simp[Hid],n⟩
     case round=>
      clear n U zk Z;obtain⟨i,M,s,hi,rfl,HM,n⟩:=hrel;have c1:M.length=R.length:=by rw[HM.o,M_,ML,List.length_drop];omega
      have U:=n.o.kn.known.runs;have zk:=n.o.kn.known.row.lt;have Z:g<wr.heap.size:=(n.o.kn.own.lt g rfl).2;by_cases F:i<L.length
      .have j9:(i:Int)<(L.length:Int):=E5;have n5:(i:Int)<(M.length:Int):=E5;have e6:i<M.length:=E5;have h5:=Kz c1;clear c1;let⟨C,D,B,c2,e7,_⟩:=n.o.pack.at n.o.own (i:=i) (by rw[W];exact F);let⟨_,_,_,_,_,e8⟩:=n.o.kn.pack.at n.o.kn.own e6;let⟨q,X⟩:=aj (x.getD i Q_.zero);rw[<-X] at B c2;have t0:=B 0 _ rfl;have t1:=B 1 _ rfl;have t2:=B 2 _ rfl;have t3:=B 3 _ rfl;have t4:=B 4 _ rfl;have t5:=B 5 _ rfl;have t6:=B 6 _ rfl;rw[Ng] at t0;have N:c<wr.heap.size:=(n.o.own.lt c rfl).2;have h6:Hid (M.set i q=x.take (i+1)++R.drop (i+1)):=by
        show _=_;have e9:i<x.length:=by rw[W];exact F
        have h7:(x.take i).length=i:=H6;have c1:=h5.o;rw[HM.o,List.set_append_right _ _ E5,h7,Nat.sub_self,Nw (l:=R) (i:=i) E5,List.set_cons_zero,Ms e9,List.append_assoc,X];simp[List.getD,e9]
       have⟨h8,h9,O⟩:=di c2 e7 e8;have i0:Hid (∀u,K_ wr u->M4 u p 1 (.b g M.length r)/\M4 u c (i*7) (.string q.name)/\M4 u c (i*7+1) (.bool q.over)/\M4 u c (i*7+2) (.bool q.fail)/\M4 u c (i*7+3) (.string q.text)/\M4 u c (i*7+4) (.a q.at')/\M4 u c (i*7+5) (.a q.Zq)/\M4 u c (i*7+6) (.slice C q.texts.length D)):=λu K=>⟨(K.cell zk).trans U,(K.cell N).trans t0,(K.cell N).trans t1,(K.cell N).trans t2,(K.cell N).trans t3,(K.cell N).trans t4,(K.cell N).trans t5,(K.cell N).trans t6⟩
       clear X B c2 e7 e8 t0 t1 t2 t3 t4 t5 t6;go_upto_region 19 with fail
       refine bF 10 i0.o λk z a5=>?_
       refine ak 0 a5 ?_;refine ak 4 a5 ?_;refine ae 8 a5 ?_;refine ae 9 a5 ?_;have d:=Kz (n.o.kept z);have f0:k.there g (i*7) 7:=λj hj=>⟨by rw[z.cell Z];exact (O.o j hj).1,(z.rules.2 g (i*7+j) Z).trans (O.o j hj).2⟩
       refine aG 10 λK hK=>?_;refine wp_store_mid 48 _ _ rfl g (i*7) #[.string q.name,.bool q.over,.bool q.fail,.string q.text,.a q.at',.a q.Zq,.slice C q.texts.length D] F7 F7 f0 F4 (all_oneCell_toArray (Q_.one q C D)) ?_;refine af hK (λh=>NB rfl h) ?_;clear hK K f0;refine aC ?_;have f1:Hid (KnZ w (k.setCells g (i*7) (q.cells C D)) (k.setCells g (i*7) (q.cells C D)) p (.b g (M.set i q).length r) a Kq.length cap (M.set i q) (some ⟨g,0,none⟩) r (ovr s (i*7) (q.cells C D))):=d.o.kn.over e6 (h8.o.but (But.ax (S:=λ_=>False) z) λ_ e=>e.elim) h9.o;have c3:=iJ (q.cells C D) (i*7) k (g:=g);have f2:Hid (vg w (k.setCells g (i*7) (q.cells C D)) p a Kq.length cap L (M.set i q) x (some ⟨g,0,none⟩) r (ovr s (i*7) (q.cells C D)) c V J):=by
        refine⟨f1.o,c3.owns d.o.own λb e (e2:b=g)=>?_,d.o.pack.but c3 (λb e=>by rw[e];exact dJ d.o.kn.own g rfl),?_⟩
        .simp only[Value.ownBlock,Na] at e;exact d.o.ne (by simp only[Value.ownBlock,Na];omega)
        .have h:=d.o.ne;simpa[Value.ownBlock] using h
       let⟨W9,c4⟩:=aj (k.setCells g (i*7) (q.cells C D));have f3:k.setCells g (i*7) [.string q.name,.bool q.over,.bool q.fail,.string q.text,.a q.at',.a q.Zq,.slice C q.texts.length D]=W9:=c4.symm;rw[f3];rw[<-c4] at f2;clear c4 f3 f1 c3 d n z U a5;go_wp2
       go_roundw
       case rel=>exact⟨i+1,M.set i q,_,E5,F3,h6,f2⟩
       case measure=>simp[intOf];omega
      .have k6:¬((i:Int)<(L.length:Int)):=E5;have i1:Hid (M=x++R.drop L.length):=by
        show _=_;rw[HM.o,show i=L.length by omega,<-W,MS]
       clear F;go_wp2
       go_roundg (if b'=true then dD (Kq.map (·.name)) (Qq (x++R.drop L.length))+1 else 0)
       case measure=>exact e5.o.2
       case rel=>exact⟨b',M,some ⟨g,0,none⟩,r,s,h4.o,by rw[i1.o];exact e5.o.1,n.o.kn⟩
theorem Tryz.EE(w:NN):(zeroValue 26).run prog w=.ok M3 w:=F4
structure mK (w:NN)(base mo M:Nat)(g:NL->NP)(ol:NL->List NL):Prop where
 map:∃N D,N<=M/\w.ownsMap prog 9 asIs mo N D/\(∀s:NL,s.size<=maxLen->D.atKey (dL s) (.held M3)=.held (g s))/\∀s:NL,Maps.has D (dL s)=true↔ol s≠[]
 row:∀s,w.ownsRow base 9 1 (g s) (ol s).length ((ol s).map Value.string)
 sep:∀s s',s≠s'->∀x,(g s).ownBlock=some x->(g s').ownBlock≠some x
 low:base<=mo
section
variable {w w1 w':NN}{base mo M:Nat}{g:NL -> NP}{ol:NL -> List NL}
theorem mK.look(h:mK w base mo M g ol){s:NL}(b:s.size<=maxLen):(Instr.lookup 121 (.map (some mo)) (.string s) false).run prog w=.ok (g s) w:=by
 let⟨N,D,_,c,d⟩:=h.map;let⟨v,j,e,a⟩:=c.lookup Tryz.keyed underlying121 (Tryz.EE w) (zd:=.held M3) (zp:=[]) rfl (WideMaps.keyOf_string_mk underlying9 b);have f:=d.1 s b;unfold asIs at a;simp only[Na,Prod.mk.injEq] at a;have i:=a.1.trans f;cases i;exact e
theorem mK.but{S:Nat->Prop}(h:mK w base mo M g ol)(k:But S w w')(a:¬S mo)(h2:∀s b,(g s).ownBlock=some b->¬S b):mK w' base mo M g ol:=by
 let⟨N,D,c,d,e⟩:=h.map;exact⟨⟨N,D,c,iQ d k a,e⟩,λs=>k.owns (h.row s) (h2 s),h.sep,h.low⟩
theorem mK.kept(h:mK w base mo M g ol)(k:K_ w w'):mK w' base mo M g ol:=h.but (S:=λ_=>False) (But.ax k) id λ_ _ _=>id
theorem mK.rQ(h:mK w base mo M g ol){s:NL}(b:s.size<=maxLen)(f:w.grownBy w1 (g s).ownBlock):(Instr.lookup 121 (.map (some mo)) (.string s) false).run prog w1=.ok (g s) w1:=by
 let⟨N,D,_,c,i⟩:=h.map;have j:w1.ownsMap prog 9 asIs mo N D:=iQ (S:=λd=>(g s).ownBlock=some d) c (But.aI f λd e=>e) λe=>iC c (Y_ (h.row s) e) rfl;let⟨v,m,k,a⟩:=j.lookup Tryz.keyed underlying121 (Tryz.EE w1) (zd:=.held M3) (zp:=[]) rfl (WideMaps.keyOf_string_mk underlying9 b);have e:=i.1 s b;unfold asIs at a;simp only[Na,Prod.mk.injEq] at a;have l:=a.1.trans e;cases l;exact k
theorem mK.put(h:mK w base mo M g ol){s:NL}(G:s.size<=maxLen){x:NL}{f:NP}(v:w1.ownsRow base 9 1 f ((ol s).length+1) ((ol s).map Value.string++[.string x]))(H:w.grownBy w1 (g s).ownBlock)(z:∀b,f.ownBlock=some b->(g s).ownBlock=some b\/w.heap.size<=b)(R:M<=1000000):∃w2,(Instr.mapUpdate 121 (.map (some mo)) (.string s) f).run prog w1=.ok () w2/\mK w2 base mo (M+1) (λn=>if n=s then f else g n) (λn=>if n=s then ol s++[x] else ol n)/\But (λb=>(g s).ownBlock=some b\/b=mo) w w2:=by
 let⟨N,I,S,l,A⟩:=h.map;have B:But (λb=>(g s).ownBlock=some b) w w1:=But.aI H λb e=>e;have C:=iQ l B λe=>iC l (Y_ (h.row s) e) rfl;let⟨w2,J,K,D⟩:=C.update Tryz.keyed underlying121 F5 (WideMaps.keyOf_string_mk underlying9 G) (d:=.held f) (ps:=[]) rfl;have E:But (λb=>(g s).ownBlock=some b\/b=mo) w w2:=(B.mono λb _ e=>.inl e).trans (But.aI D λb e=>.inr (Nl e).symm);have L:But (λb=>b=mo) w1 w2:=But.aI D λb e=>(Nl e).symm;have O:∀{b:Nat}{t:TypeId},bA w1 b t->¬b=mo:=λP e=>iC C P e
 have F:Maps.IsMap I:=by obtain⟨T,U,_,_,_,rfl⟩:=l;exact⟨_,rfl⟩
 refine⟨w2,J,⟨⟨N+1,_,E5,K,λn Q=>?_,λn=>?_⟩,λn=>?_,λn m r y i a=>?_,h.low⟩,E⟩
 .by_cases e:n=s
  .rw[Nz e,e];exact Maps.atKey_put_same (k:=dL s) F (by show WideAt.IsKeyLit (.string _);exact trivial) _ _
  .rw[NA e,<-A.1 n Q];exact Maps.atKey_put_other (ko e) _ _
 .by_cases e:n=s
  .rw[Nz e,e];exact⟨λ_=>E9,λ_=>Maps.has_put_same (k:=dL s) F (by show WideAt.IsKeyLit (.string _);exact trivial) (.held f)⟩
  .rw[NA e,<-A.2 n];exact Eq.to_iff (congrArg (· =true) (Maps.has_put_other (ko e) _))
 .by_cases e:n=s
  .simp only[Nz e];have p:(ol s++[x]).length= (ol s).length+1:=E9;have c:(ol s++[x]).map Value.string= (ol s).map Value.string++[.string x]:=E9;rw[p,c];exact L.owns v (λb e=>O (Y_ v e))
  .simp only[NA e];refine E.owns (h.row n) λb p c=>?_;rcases c with c|c
   .exact h.sep n s e b p c
   .exact iC l (Y_ (h.row n) p) c
 .by_cases e:n=s
  .rw[Nz e] at i;rw[NA λj=>r (e.trans j.symm)] at a;rcases z y i with q|q
   .exact h.sep s m (λj=>r (e.trans j)) y q a
   .have:=((h.row m).lt y a).2;omega
  .rw[NA e] at i;by_cases j:m=s
   .rw[Nz j] at a;rcases z y a with q|q
    .exact h.sep n s e y i q
    .have:=((h.row n).lt y i).2;omega
   .rw[NA j] at a;exact h.sep n m r y i a
theorem mK.made{base:Nat}(b:base<=w.heap.size):mK (w.alloc (.map #[] 0)) base w.heap.size 0 (λ_=>.slice none 0 0) (λ_=>[]):=⟨⟨0,.map [],Mj _,World.ownsMap_made w prog 9 asIs,λs _=>rfl,λs=>by simp[Maps.has]⟩,λs=>Nj _ _ _ _,λs d _ x h=>(by cases h),b⟩
end
def Av(ts:List Zk)(ws:NL->List Nat)(x s:NL):Prop:=∃t∈ts,t.r.name=x/\t.tb∈ws s
structure CZ (ts:List Zk)(ws:NL->List Nat)(M:Nat)(P:NL->Prop)(ol:NL->List NL):Prop where
 iff:∀x s,s∈ol x↔P s/\Av ts ws x s
 nd:∀x,(ol x).Nodup
 len:∀x,(ol x).length<=M
variable {ws:NL -> List Nat}{P:NL -> Prop}{ts:List Zk}
theorem CZ.start(h:∀s,¬P s):CZ ts ws 0 P (λ_=>[]):=⟨λx s=>⟨λe=>(by cases e),λe=>(h s e.1).elim⟩,λ_=>List.nodup_nil,λ_=>Mj _⟩
structure Ci (ts:List Zk)(ws:NL->List Nat)(M:Nat)(P:NL->Prop)(s:NL)(k:Nat)(ol:NL->List NL):Prop where
 iff:∀x s',s'∈ol x↔(P s'/\Av ts ws x s')\/(s'=s/\∃t∈ts,t.r.name=x/\t.tb∈(ws s).take k)
 nd:∀x,(ol x).Nodup
 len:∀x,(ol x).length<=M
variable {ol:NL -> List NL}
theorem CZ.enter{M:Nat}(h:CZ ts ws M P ol)(s:NL):Ci ts ws M P s 0 ol:=⟨λx c=>by rw[h.iff];simp,h.nd,h.len⟩
variable {s:NL}
theorem Ci.leave{M:Nat}{Q:NL->Prop}{k:Nat}(h:Ci ts ws M P s k ol)(d:(ws s).length<=k)(e:∀c,Q c↔P c\/c=s):CZ ts ws M Q ol:=⟨λx c=>by
  rw[h.iff,e,MU d];constructor
  .rintro (⟨a,b⟩|⟨a,b⟩)
   .exact⟨.inl a,b⟩
   .subst a;exact⟨.inr rfl,b⟩
  .rintro⟨a|a,b⟩
   .exact .inl ⟨a,b⟩
   .subst a;exact .inr ⟨rfl,b⟩,h.nd,h.len⟩
theorem Ci.put{M:Nat}{k:Nat}(i:Ci ts ws M P s k ol)(E:¬P s)(l:dB (Qj ts))(F:(ts.map (·.tb)).Nodup)(G:(ws s).Nodup){u:Zk}(m:u∈ts)(H:(ws s)[k]? =some u.tb):Ci ts ws (M+1) P s (k+1) (λn=>if n=u.r.name then ol u.r.name++[s] else ol n):=by
 let⟨v,w⟩:=Mr.1 H;have y:(ws s).take (k+1)= (ws s).take k++[u.tb]:=by rw[Ms v,w]
 have one:∀t∈ts,t.r.name=u.r.name->t=u:=λt z e=>by
  have a:=bJ l (Nk (f:=λt:Zk=>t.r) z);have d:=bJ l (Nk (f:=λt:Zk=>t.r) m);rw[e,d] at a;obtain⟨p,A,rfl⟩:=MB z;obtain⟨j,B,rfl⟩:=MB m;rcases Ny p j with g|g|g
  .have:=Mx.1 l p j (by simpa[Qj] using A) (by simpa[Qj] using B) g;simp only[Qj,List.getElem_map] at this;exact NB e (dO this)
  .subst g;rfl
  .have:=Mx.1 l j p (by simpa[Qj] using B) (by simpa[Qj] using A) g;simp only[Qj,List.getElem_map] at this;exact NB e.symm (dO this)
 have I:u.tb∉(ws s).take k:=λi=>by
  let⟨q,J,e⟩:=MB i;rw[ML] at J;rw[MW] at e;have:=Mx.1 G q k E5 v E5;exact this (e.trans w.symm)
 refine⟨λx L=>?_,λx=>?_,λx=>?_⟩
 .by_cases e:x=u.r.name
  .simp only[Nz e];subst e;rw[Mv,Mt,i.iff,y];constructor
   .rintro ((a|⟨a,t,d,h,c⟩)|a)
    .exact .inl a
    .exact .inr ⟨a,t,d,h,Mv.2 (.inl c)⟩
    .exact .inr ⟨a,u,m,rfl,Mv.2 (.inr E9)⟩
   .rintro (a|⟨a,t,d,h,c⟩)
    .exact .inl (.inl a)
    .exact .inr a
  .simp only[NA e];rw[i.iff,y];constructor
   .rintro (a|⟨a,t,d,h,c⟩)
    .exact .inl a
    .exact .inr ⟨a,t,d,h,Mv.2 (.inl c)⟩
   .rintro (a|⟨a,t,d,h,c⟩)
    .exact .inl a
    .rcases Mv.1 c with c|c
     .exact .inr ⟨a,t,d,h,c⟩
     .rw[Mt] at c;have:=ru F d m c;rw[this] at h;exact NB h.symm e
 .by_cases e:x=u.r.name
  .simp only[Nz e];rw[List.nodup_append];refine⟨i.nd _,E9,λN C b D K=>?_⟩;rw[Mt] at D;rw[K,D,i.iff] at C;rcases C with⟨a,_⟩|⟨_,t,d,h,c⟩
   .exact E a
   .rw[one t d h] at c;exact I c
  .simp only[NA e];exact i.nd x
 .by_cases e:x=u.r.name
  .simp only[Nz e];rw[M_];have:=i.len u.r.name;show _+1<=M+1;omega
  .simp only[NA e];have:=i.len x;omega
variable {left:Lit -> Bool}{cnt:Nat}
theorem xH{H:Type}{P:Program}{k:TypeId}{c:NP->Option (DataW H×List MemPlace)}{w w':NN}{b r n:Nat}{D:DataW H}{S:Nat->Prop}(h:w.ranges P k c b r n D left cnt)(q:But S w w')(i:¬S b)(j:¬S r):w'.ranges P k c b r n D left cnt:=by
 let⟨l,m,p,s,t,e,v,x,y,f,z⟩:=h;exact⟨l,m,p,s,t,(q.block b (aM e) i).trans e,v,x,y,(q.block r (aM f) j).trans f,z⟩
theorem uU{H:Type}{P:Program}{k:TypeId}{a:NP->Option (DataW H×List MemPlace)}{w:NN}{b r n:Nat}{D:DataW H}(h:w.ranges P k a b r n D left cnt){t:TypeId}:¬bA w r t:=by
 let⟨d,f,i,j,l,_,_,_,_,c,_⟩:=h;rintro⟨m,p,e⟩;rw[c] at e;cases e
theorem DL{H:Type}{P:Program}{k:TypeId}{a:NP->Option (DataW H×List MemPlace)}{w:NN}{b r n:Nat}{D:DataW H}(h:w.ranges P k a b r n D left cnt){t:TypeId}:¬bA w b t:=by
 let⟨d,f,i,j,l,c,_⟩:=h;rintro⟨m,p,e⟩;rw[c] at e;cases e
theorem BS.Mg{Kq:List Qz}(h:BS Kq ts ws)(e:bH (Kk Kq)){t:Zk}(b:t∈ts)(f:t.tb∈ws s):1<=s.size/\s.size<=20:=by
 have a:=(h.wt s t b).1 f;let⟨A,c,i,j⟩:=(h.good.good t.r (Nk b)).act;unfold pend at a
 split at a
 .cases a
 .rw[c] at a;have d:=(iw (e _ _ c).1 i j).2 s (List.mem_filter.1 a).1;exact⟨d.1,d.2.1⟩
theorem G_{a:NL}:(dL a).sameKey (dL s)=true↔a=s:=by
 constructor
 .intro h;by_cases e:a=s
  .exact e
  .rw[Maps.sameKey_ne (ko e)] at h;cases h
 .rintro rfl;simp[dL,Lit.sameKey]
def KS(ts:List Zk)(ws:NL->List Nat)(w w':NN)(e:Ending):Prop:=∃mo M g ol,e=.returned (.map (some mo))/\mK w' w.heap.size mo M g ol/\CZ ts ws M (λ_=>True) ol/\M<=600000/\K_ w w'
section
variable {G:cZ}{Kq:List Qz}{wz w w':NN}{bb:Nat}{a:NM}{cap:Nat}{rd:NM}{rn rc:Nat}{mb mx:Nat}{ts:List Zk}{d:NM}{dc:Nat}{f:NL -> NP}{ws:NL -> List Nat}
theorem zn(N:BM G Kq wz w bb a cap rd rn rc mb mx ts d dc f ws)(hS:BS Kq ts ws)(c4:bH (Kk Kq))(h1:mx<=9000)(h2:ts.length<=60):Calls prog 75 #[.c bb] w λe w'=>KS ts ws w w' e:=by
 let⟨V,D,hN,W,hf⟩:=N.map;have h3:=W.size_le;let⟨E,O⟩:=aj (w.alloc (.map #[] 0));have P:K_ w E:=by rw[O];exact ah _ _
 have c5:Hid (mK E w.heap.size w.heap.size 0 (λ_=>.slice none 0 0) λ_=>[]):=by rw[O];exact mK.made (Mj _)
 have zM:E.heap.size=w.heap.size+1:=by rw[O];simp
 have HM:=Kz (iQ (S:=λ_=>False) W (But.ax P) id);have e5:=(N.kept P).c5;have bz:=(N.kept P).row.lt;have h5:=W.lt;have⟨I,Q,HF⟩:=di N hS hf;have e6:(Instr.makeMap 121 none).run prog w=.ok (.map (some w.heap.size)) (w.alloc (.map #[] 0)):=rfl;go_enter func75,ntmps75
 go_upto_region 2 with fail
 clear e6;rw[<-O];clear O;go_wp2_with (first|(at_range;refine wpList_range_own _ rfl _ 150 rfl 9 151 Tryz.keyed underlying150 asIs mb V D rfl HM.o ?_;intro w0 a7 a8 c6))
 go_frame
 let⟨v,c7⟩:=aj E.heap.size;rw[<-c7] at a7 c6⊢;have K0:K_ w w0:=(But.aI (S:=λ_=>False) a8 λb e=>by cases e).kept P λb e=>e.elim;have c8:K_ E w0:=(But.aI (S:=λ_=>False) a8 λb e=>by cases e).kept (K_.refl _) λb e=>e.elim;have X:=Kz (c5.o.kept c8);let⟨y,Y⟩:=aj w.heap.size;have X:Hid (mK w0 w.heap.size y 0 (λ_=>.slice none 0 0) λ_=>[]):=by rw[Y];exact X
 have h6:y<v:=E5;have h7:w.heap.size<v:=E5;rw[<-Y];have c9:Hid (w.heap.size<=y):=MN Y.symm;clear Y c5 c8 a8 c6 e5 c7 zM P HM;go_loopw [4] (λ_ wr=>∃(left:Lit->Bool)(Z M:Nat)(g:NL->NP)(k:NL->List NL),wr.ranges prog 9 asIs mb v V D left Z/\M+60*Z<=600000/\Hid (mK wr w.heap.size y M g k)/\Hid (CZ ts ws M (λs=>Maps.has D (dL s)=true/\left (dL s)=false) k)/\K_ w wr) (λ_ wr=>wr.rangeLeft mb v)
 case atStart=>exact⟨_,_,0,_,_,a7,E5,X,Kz (CZ.start λs h=>by have l:=h.1;have p:=h.2;rw[l] at p;cases p),K0⟩
 case round=>
  clear X K0 a7;let⟨left,Z,M,g,k,a9,h8,q,R,Kr⟩:=hrel;go_wp2_with (first|(at_next;refine wpList_next_ranges (α:=NL) (β:=NP) _ rfl _ rfl 9 Tryz.keyed asIs Value.string id (λh9 kl hk=>by let⟨x,J,_⟩:=Maps.keyOf_str underlying9 hk;exact⟨_,J⟩) (λe7 e8 T=>⟨e7,rfl⟩) mb v V D left Z rfl a9 ?_ ?_))
  .intro d0 e9;go_wp2
   go_ret
   refine⟨y,M,g,k,rfl,q.o,⟨λx s=>?_,R.o.nd,R.o.len⟩,E5,Kr⟩;rw[R.o.iff];refine⟨λh=>⟨trivial,h.2⟩,λh=>⟨⟨?_,e9 _⟩,h.2⟩⟩;let⟨i0,ht,_,b0⟩:=h.2;cases a0:Maps.has D (dL s)
   .have a1:=(Q.o.Mg c4 ht b0).2;have l:=HF.o s F5;rw[Maps.atKey_of_not_has a0] at l;have p:f s=.slice none 0 0:=by injection l with l;exact l.symm
    have a2:=I.o.jf s;rw[p] at a2;rcases a2.2 with⟨_,h4⟩|⟨_,_,_,h4,_⟩
    .rw[MF.1 h4] at b0;cases b0
    .cases h4
   .rfl
  .intro s c kl yd yp w1 b1 d1 d2 T b2 f0 f1 b3 f2 b4;have a1:s.size<=maxLen/\kl=dL s:=by
    let⟨x',e1,e2,f3⟩:=Maps.keyOf_str underlying9 d1;unfold encStr at e1;injection e1 with e1;subst e1;exact⟨by show x'.toArray.size<=maxLen;simpa using f3,by rw[e2];unfold dL;simp⟩
   obtain⟨a1,rfl⟩:=a1;have a3:c=f s:=by
    have l:=b2 (.held M3);rw[HF.o s a1] at l;unfold asIs at T;simp only[Na,Prod.mk.injEq] at T;rw[<-T.1] at l;injection l with l;exact l.symm
   let⟨ua,uc,i⟩:=aF (I.o.jf s);rw[a3,i] at b4;have a0:=Maps.has_true_of_atKey b2;have K1:K_ w w1:=(But.aI (S:=λb=>b=v) b3 λb e=>(Nl e).symm).kept Kr (λb e=>by rw[e];omega);have d3:=Kz (q.o.but (But.aI (S:=λb=>b=v) b3 λb e=>(Nl e).symm) E5 λs' b e e2=>by rw[e2] at e;exact uU a9 (Y_ (q.o.row s') e));have⟨Hu,i1,f4,f5⟩:=nC i a3 d2 a0;have f6:=Q.o.Lu s;have d4:=Kz (R.o.enter s);rw[a3,i];clear i a3 d2 a0 T b2 d1 b3 f2 q;let⟨t,hn⟩:=aj ((ws s).length);rw[<-hn] at b4 f6⊢;have Hn:=Kz hn;clear hn;go_wp2_with fail
   clear b4;go_loopw [21] (λxi wr=>∃(m M:Nat)(g:NL->NP)(k:NL->List NL),m<=t/\xi=.a (m:Int)/\wr.ranges prog 9 asIs mb v V D (λz=>left z && !z.sameKey (dL s)) b1/\M+(t-m)+60*b1<=600000/\Hid (mK wr w.heap.size y M g k)/\Hid (Ci ts ws M (λs=>Maps.has D (dL s)=true/\left (dL s)=false) s m k)/\K_ w wr) (λxi _=>t-(intOf xi).toNat)
   case atStart=>exact⟨0,M,g,k,Ml _,rfl,f0,E5,d3,d4,K1⟩
   case round=>
    clear d3 d4 K1 R;obtain⟨m,M,g,k,hk,rfl,b5,i2,q,HJ,F⟩:=hrel;by_cases i3:m<t
    .obtain⟨n,a4⟩:∃n,(ws s)[m]? =some n:=⟨_,Mq (by have:=Hn.o;omega)⟩;let⟨u,i,a5⟩:=Q.o.ww s n (ME a4);have b6:=I.o.kept F;have hT:=b6.eZ u i;have b7:=b6.jf s;rw[Hu.o,<-Hn.o] at b7;obtain⟨b,o,rfl,hb,d5⟩:=ed b7 m (by simp;have:=Hn.o;omega);have c0:wr.cell? ⟨b,o+m,none⟩=some (.c n):=by rw[d5 m (xX n) (by simp[a4])];rfl
     let⟨x,J⟩:=aj u.r.name;have n0:wr.cell? ⟨n,0,none⟩=some (.string x):=by rw[<-a5,J];exact hT.rng 0 _ rfl
     have d6:n<w.heap.size:=by rw[<-a5];exact (I.o.eZ u i).row.lt
     have f7:=Mk d6 F.size;have b8:x.size<=maxLen:=by
      let⟨i4,hA,_⟩:=(Q.o.good.good u.r (Nk i)).act;have:=(c4 _ _ hA).2.2.1;rw[J];unfold maxLen;omega
     let⟨va,vc,hg⟩:=aF (q.o.row x);have Hg:=Kz hg;have b9:Hid (∀w',K_ wr w'->M4 w' n 0 (.string x)/\(Instr.lookup 121 (.map (some y)) (.string x) false).run prog w'=.ok (.slice va (k x).length vc) w'):=λw' K=>⟨(K.cell f7).trans n0,by rw[<-Hg.o];exact (q.o.kept K).look b8⟩
     have i5:=HJ.o.len x;have f8:Hid (Ci ts ws (M+1) (λs=>Maps.has D (dL s)=true/\left (dL s)=false) s (m+1) λt=>if t=x then k x++[s] else k t):=by
      rw[J];exact HJ.o.put (λh=>by rw[f4.o] at h;exact NB h.2 E9) I.o.asc I.o.tbs (Q.o.wn s) i (by rw[a5];exact a4)
     let⟨ic,d0,f9,g0,g1⟩:=aW Tryz.fA;have i6:=F.size;have i7:(m:Int)<(t:Int):=E5;clear hT b6 b7 d5 hg a4 a5 J;go_upto_region 8 with fail
     clear c0 n0;refine bF 16 b9.o λH KD L=>?_
     refine ak 0 L ?_;refine ak 4 L ?_;refine ak 8 L ?_;refine ae 12 L ?_;refine ae 13 L ?_;refine ai 14 λK A=>?_;go_simp
     have K5:K_ H (H.alloc (.cells #[.string s] 9)):=ah _ _;have c1:M4 (H.alloc (.cells #[.string s] 9)) H.heap.size 0 (.string s):=X_ H #[.string s] 9 0 _ rfl;have B:=KD.trans K5;refine A.out _ _ (λ_=>b9.o _ B) ?_;have C:=Kz (q.o.kept B);let⟨eb,d7⟩:=aj H.heap.size;rw[<-d7] at c1⊢;generalize g2:H.alloc (.cells #[.string s] 9)=w6 at c1 B C⊢;clear g2 d7;have c2:=C.o.row x;rw[Hg.o] at c2;have g3:=Kz c2;have g4:=(F.trans B).size;try simp only[upP]
     refine ai 15 λK A=>?_;refine step_append_lies _ rfl (.tmp 37) (.tmp 39) 26 rfl w.heap.size 9 ic _ 1 16 underlying26 d0 f9 g0 g1 rfl E8 (.slice va (k x).length vc) (k x).length ((k x).map Value.string) rfl g3.o ⟨eb,0,none⟩ 1 1 [.string s] rfl rfl (λj u i=>?_) (λu i=>?_) E8 F5 E5 g4 w6.heap.size rfl ?_
     .match j,i with
      |0,i=>simp at i;subst i;rw[Nf];exact c1
      |j+1,i=>simp at i
     .simp at i;subst i;rfl
     intro gb gc w7 d8 U c3 i8;rw[<-Hg.o] at U c3;let⟨w8,g5,d9,e0⟩:=C.o.put (s:=x) (x:=s) b8 d8 U (λe8 e=>by simp only[Value.ownBlock,Na] at e;subst e;rcases c3 with h|h;exact .inl h;exact .inr (MN h.symm)) E5;have⟨g6,e3⟩:=aH d9 e0;have e4:But (λb=>(g x).ownBlock=some b) w6 w7:=But.aI U λb e=>e;have g7:=Mk d6 (F.trans B).size;have g8:Hid (M4 w7 n 0 (.string x)/\(Instr.lookup 121 (.map (some y)) (.string x) false).run prog w7=.ok (.slice va (k x).length vc) w7):=by
      exact⟨(e4.cell g7 λe=>by have:=((C.o.row x).lt n e).1;omega).trans (b9.o _ B).1,by have h:=C.o.rQ (s:=x) b8 U;rw[Hg.o] at h;exact h⟩
     refine af A (λ_=>g8.o) ?_;clear A K d9 d8 U c3 e4 e0;refine ai 16 λK A=>?_;go_simp
     refine af A (λh=>NB rfl h) ?_;refine aC ?_;have K8:K_ w w8:=e3.o.kept (F.trans B) (λb e=>by
      rcases e with e|e
      .exact ((C.o.row x).lt b e).1
      .rw[e];exact c9.o)
     have a6:=xH (S:=λ_=>False) b5 (But.ax B) id id;have g9:=xH a6 e3.o (λe=>by
      rcases e with e|e
      .exact DL a6 (Y_ (C.o.row x) e)
      .have:=c9.o;omega) (λe=>by
      rcases e with e|e
      .exact uU a6 (Y_ (C.o.row x) e)
      .omega)
     clear a6 g5;go_wp2
     go_roundw
     case rel=>exact⟨m+1,M+1,_,_,E5,F3,g9,E5,g6,f8,K8⟩
     case measure=>simp[intOf];omega
    .have h0:m=t:=E5;go_wp2
     go_roundw
     case rel=>
      refine⟨_,b1,M,g,k,b5,E5,q,Kz (HJ.o.leave (by rw[h0,Hn.o];exact Mj _) λs'=>?_),F⟩;constructor
      .rintro⟨l,p⟩;by_cases e:s'=s
       .exact .inr e
       .refine .inl ⟨l,?_⟩;have a2:=Maps.sameKey_ne (ko e);rw[a2] at p;simpa using p
      .rintro (⟨l,p⟩|rfl)
       .exact⟨l,by rw[p];rfl⟩
       .exact⟨f5.o,by rw[G_.2 rfl];simp⟩
     case measure=>rw[b5.left_eq,a9.left_eq];exact f1
end
open Go.RowKit Go.Shelf
attribute [local go_sem] Oper.semAt_some
def Js(B:Nat)(d:NM)(tx:Nat->NL)(i:Nat)(W:NN):Prop:=∃b o,d=some ⟨b,o,none⟩/\b<B/\W.cell? ⟨b,o+i,none⟩=some (.string (tx i))
theorem Au(B a:Nat)(d:NM)(dc n:Nat)(b:Nat->NL)(q:n<=1048576):IY prog 190 #[.c a] (λi=>#[.string (b i)]) (Js B d b) (λ_ _=>False) n (λW=>W.cell? ⟨a,0,none⟩=some (.slice d n dc)):=by
 intro y J r W s c f;refine callsIn_of_wp func190 rfl trivial ?_ rfl;simp only[ntmps190,List.size_toArray,Nc,List.length_nil,Nat.reduceAdd,Nat.reduceSub,Array.replicate_succ,Array.replicate_zero,List.push_toArray,List.append_toArray,List.nil_append,List.cons_append];have j:=Kz c;clear c
 gi_wp2
 gi_loopw [7] (λx wr=>∃i:Nat,i<=n/\x=.a i/\J i wr) (λx _=>n-(intOf x).toNat)
 case atStart=>exact⟨0,Ml _,rfl,f⟩
 case round=>
  obtain⟨i,t,rfl,e⟩:=hrel;by_cases k:i<n
  .rcases j.o i wr k e with⟨⟨v,o,rfl,_,w⟩,z,A,C,D,E,l⟩|⟨h,_⟩
   .gi_wp2
    refine l.mono ?_;rintro F G (⟨rfl,m⟩|⟨rfl,p⟩)
    .gi_wp2
     go_roundw
     case rel=>exact⟨i+1,E5,F3,m⟩
     case measure=>simp[intOf];omega
    .gi_wp2
     refine bodyPost_ret (results_none rfl _ _ _) rfl ?_;exact⟨⟨_,rfl⟩,.inr p⟩
   .exact h.elim
  .gi_wp2
   go_end0
   have:i=n:=E5;subst this;exact⟨⟨_,rfl⟩,.inl e⟩
def AqI(w1:NN)(c:Nat)(l:List NL)(i:Nat)(W:NN):Prop:=K_ w1 W/\c<W.heap.size/\∃v:NP,W.cell? ⟨c,0,none⟩=some v/\W.frozen? ⟨c,0,none⟩=false/\W.ownsRow (c+1) 9 1 v (l.take i).length ((l.take i).map Value.string)
theorem AqI.calm{w1:NN}{c:Nat}{l:List NL}{i B:Nat}(s:w1.heap.size<=c)(t:c<B):Calm B (AqI w1 c l i):=by
 constructor
 .rintro W o w ⟨k,a,v,h,j,d⟩;have f:=(K_.refl W).alloc o;exact⟨k.trans f,by rw[MZ];omega,v,(f.cell a).trans h,(f.rules.2 c 0 a).trans j,(But.ax (S:=λ_=>False) f).owns d λ_ _=>id⟩
 .rintro W y o m x p q ⟨k,a,v,h,j,d⟩;have n:But (λb=>b=y) W (W.putObj y m):=⟨rfl,rfl,rfl,G7,λb _ e=>World.putObj_heap_other e⟩;refine⟨n.kept k (λb e=>by rw[e];omega),by rw[World.putObj_size];exact a,v,(gU m E5).trans h,(rJ m E5).trans j,n.owns d λb r e=>?_⟩;have:=iG (Y_ d r) (by rw[e];exact p);rw[q] at this;cases this
theorem uF{B:Nat}{v:NP}{c o:Nat}(h:c<B):Calm B (λW=>W.cell? ⟨c,o,none⟩=some v):=by
 constructor
 .intro W d i a;let⟨j,e,_⟩:=cells_of_cell a;exact (((K_.refl W).alloc d).cell (aM e)).trans a
 .intro W y d f l m n a;exact (gU f E5).trans a
theorem Dw{B:Nat}{d:NM}{k:Nat->NL}{i C:Nat}(h:B<=C):Calm C (Js B d k i):=by
 constructor
 .rintro W c l ⟨b,o,rfl,a,f⟩;exact⟨b,o,rfl,a,(uF (Mk a h)).1 W c l f⟩
 .rintro W y c n p q r ⟨b,o,rfl,a,f⟩;exact⟨b,o,rfl,a,(uF (Mk a h)).2 W y c n p q r f⟩
theorem Cb :∃ic,prog.info? 9=some ic/\ic.zero=some (.string ByteArray.empty)/\ic.size=1/\ic.bytes=16:=info_parts Tryz.Bp
theorem yP(w:NN)(q:Nat)(d:NM)(dc:Nat)(l:List NL)(hn:l.length<=1048576)(a8:q<w.heap.size)(hc:w.cell? ⟨q,0,none⟩=some (.slice d l.length dc))(hS:Strs w d l):Calls prog 181 #[M3,.func (.func 190) #[] #[.c q]] w λe w'=>∃v,e=.returned v/\w'.ownsRow w.heap.size 9 1 v l.length (l.map Value.string)/\K_ w w':=by
 refine (callsIn_wide (n:=9)).1 ?_;refine callsIn_of_wp_marks func181 rfl trivial ?_ rfl;simp only[ntmps181,List.size_toArray,Nc,List.length_nil,Nat.reduceAdd,Nat.reduceSub,Array.replicate_succ,Array.replicate_zero,List.push_toArray,List.append_toArray,List.nil_append,List.cons_append]
 gi_wp2_with fail
 obtain⟨r,A⟩:∃r,w.alloc (.cells #[M3] 26)=r:=⟨_,rfl⟩;rw[A];have Z:K_ w r:=by rw[<-A];exact ah _ _
 have z0:r.heap.size=w.heap.size+1:=by rw[<-A];simp
 let⟨a0,q1,_⟩:=xx (w:=w) (v:= M3) (t:=26) (w1:=r) (by rw[A];exact K_.refl _);have F:=(Z.cell a8).trans hc;obtain⟨k,R⟩:∃k:Nat->NL,∀i,k i=l.getD i ByteArray.empty:=⟨_,λ_=>rfl⟩;have a9:Hid (∀i W,i<l.length->K_ w W->Js w.heap.size d k i W):=λi W B a1=>by
  let⟨b,o,e,G,b0⟩:=hS i B;exact⟨b,o,e,G,by rw[R];exact (a1.cell G).trans b0⟩
 have b1:=Kz R;clear R;refine Cj (Au w.heap.size q d dc l.length k hn) rfl (enters_of func190 F4 rfl) (uF E5) F (λ_=>rfl)
  (AqI w w.heap.size l) (λ_ _=>False) (λi=>AqI.calm (Mj _) E5) (λ_=>rH _)
  ⟨Z,E5,M3,a0,q1,by rw[List.take_zero];exact Nj _ _ _ _⟩
  (λi=>{tmps:= #[M3,.func (.func 190) #[] #[.c q],.c w.heap.size,undef,M3,.string (k i),.func (.func 190) #[] #[.c q],.string (k i),undef,undef,undef,undef,undef],defers:=[]}) ?assign ?calm ?step ?done ?stop
 case assign=>
  intro b2 i W a1 hK
  gi_wp2
  exact hK
 case calm=>exact λi=>Dw E5
 case stop=>
  intro D c W _ b3 _;exact b3.elim
 case step=>
  rintro i W B ⟨s,x,v,C,H,h⟩;refine .inl ⟨a9.o i W B s,?_⟩;clear h H C v x s;rintro b2 W _ ⟨s,x,v,C,H,h⟩ c6;obtain⟨I,J,rfl⟩:=aF h;let⟨f,K⟩:=aj (l.take i);have c7:f.length<=1048576:=by rw[K,ML];omega
  rw[<-K] at h C;let⟨j,T⟩:=aj (k i);rw[<-T];have b4:Hid (l.take (i+1)=f++[j]):=by
   show l.take (i+1)=f++[j];rw[Ms B,K,T,b1.o];simp[List.getD,B]
  have H3:=Kz h;clear h a0 q1 F A T K;let⟨ic,F,b5,b6,b7⟩:=Cb;have b8:w.heap.size+1<=W.heap.size:=E5;let⟨V,y⟩:=aj (W.alloc (.cells #[.string j] 9));have L:K_ W V:=by rw[y];exact ah _ _
  have M:=Kz L;have z:=Kz ((But.ax (S:=λ_=>False) L).owns H3.o λ_ _=>id);have a2:=Mm b8 L.size;have a3:Hid (∀N u,([.string j]:List NP)[N]? =some u->V.cell? ((⟨W.heap.size,0,none⟩:Addr).add N)=some u):=λN u O=>by rw[Nf,y];exact X_ W #[.string j] 9 N u O
  have b9:Hid (∀u∈([.string j]:List NP),u.oneCell'=true):=λu O=>by simp only[Nh,Ni,or_false] at O;subst O;rfl
  have c0:Hid (KeepsOthers W V):=by rw[y];exact KeepsOthers.alloc _ _
  rw[y] at z a3 a2;have HV:=Kz y;clear L y
  gi_wp2_with (gi_at_builtin;refine wpListIn_append_own _ rfl (.tmp 8) (.tmp 10) 26 rfl (w.heap.size+1) 9 ic _ 1 16 underlying26 F b5 b6 b7 rfl E8 (.slice I f.length J) f.length (f.map Value.string) rfl z.o ⟨W.heap.size,0,none⟩ 1 1 [.string j] rfl rfl a3.o b9.o F5 E5 a2 ?_;intro v' m U P _;rw[<-HV.o] at P z;have Q:∀b,(Value.slice I f.length J).ownBlock=some b->w.heap.size+1<=b:=λb e=>(z.o.lt b e).1;have E:But (λb=>(Value.slice I f.length J).ownBlock=some b) V m:=But.aI P λb e=>e;have X:=Mk x M.o.size;have s9:M4 m w.heap.size 0 (.slice I f.length J):=(E.cell X λe=>by have:=Q _ e;omega).trans ((M.o.cell x).trans C);have f9:m.frozen? ⟨w.heap.size,0,none⟩=false:=(World.frozen?_of_block (w:=V) (a:=⟨w.heap.size,0,none⟩) (E.block w.heap.size X λe=>by have:=Q _ e;omega)).trans ((M.o.rules.2 _ _ x).trans H);have z9:=Mk X E.size;have c1:=Kz (E.kept (s.trans M.o) λb e=>by have:=Q b e;omega);have c2:=Kz (c0.o.trans (KeepsOthers.of_grownBy P λb o e ho=>iG (Y_ z.o e) ho));have c3:=Kz U;obtain⟨a4,a5,rfl⟩:=aF U;clear U P E Q HV z)
  have c4:Hid (KeepsFrom r.heap.size W (m.setCell ⟨w.heap.size,0,none⟩ (.slice a4 (f.length+1) a5))):=(c2.o.trans (KeepsOthers.setCell _ _ _)).from _
  refine⟨c4.o,c1.out.setCell (Mj _) _,by rw[size_setCell];exact z9,_,Ns _ _ _ s9,by rw[World.frozen?_setCell];exact f9,?_⟩;have HO:m.ownsRow (w.heap.size+1) 9 1 (.slice a4 (f.length+1) a5) (f++[j]).length ((f++[j]).map Value.string):=by rw[M_,ND];exact c3.o
  rw[b4.o];exact (But.set (S:=λb=>b=w.heap.size) (But.ax (K_.refl m)) (p:=⟨w.heap.size,0,none⟩) rfl _).owns HO (λb e e2=>by have:=(HO.lt b e).1;omega)
 case done=>
  rintro D W hD ⟨s,x,v,C,H,h⟩ a6;rw[MS] at h;have c5:w.heap.size<=D:=E5;have Y:But (λb=>b=D) W (W.putObj D (.deferred none)):=⟨rfl,rfl,rfl,G7,λb _ e=>World.putObj_heap_other e⟩;have a7:Hid (K_ w (W.putObj D (.deferred none))/\(W.putObj D (.deferred none)).ownsRow w.heap.size 9 1 v l.length (l.map Value.string)):=by
   refine⟨Y.kept s (λb e=>by rw[e];exact c5),dN (Y.owns h λb G e=>?_) E5⟩;have:=iG (Y_ h G) (by rw[e];exact a6);cases this
  clear h Y
  gi_wp2
  exact⟨E9,.inl ⟨_,_,rfl,run_takeDeferred a6,_,results_tmp rfl _ _ _,v,rfl,a7.o.2,a7.o.1⟩⟩
theorem CF(w:NN)(a:Nat)(d:NM)(dc:Nat)(l:List NL)(c:l.length<=1048576)(f:a<w.heap.size)(h:w.cell? ⟨a,0,none⟩=some (.slice d l.length dc))(i:Strs w d l):Calls prog 151 #[.func (.func 190) #[] #[.c a]] w λe w'=>∃v,e=.returned v/\w'.ownsRow w.heap.size 9 1 v l.length (l.map Value.string)/\K_ w w':=by
 go_enter func151,ntmps151
 go_wp2_with fail
 refine (yP w a d dc l c f h i).mono ?_;rintro e m ⟨v,rfl,b,j⟩;have k:=Kz b;go_wp2
 go_ret
 exact⟨v,rfl,k.o,j⟩
theorem DN(w:NN)(d:NM)(n dc:Nat):Calls prog 169 #[.slice d n dc] w λe w'=>e=.returned (.func (.func 190) #[] #[.c w.heap.size])/\w'=w.alloc (.cells #[.slice d n dc] 26):=by
 go_enter func169,ntmps169
 go_wp2
 go_ret
 exact⟨rfl,rfl⟩
open Go.RowKit Go.Sort
def vI(l ns:List NL):Prop:=ns.Perm l/\ns.Pairwise λa b=>¬aQ b a
theorem vI.asc{l a:List NL}(h:vI l a)(d:l.Nodup):qJ a/\∀s,s∈a↔s∈l:=by
 refine⟨?_,λs=>h.1.mem_iff⟩;have e:=h.1.nodup_iff.2 d;unfold qJ;exact (h.2.and e).imp λ{f b} c=>by
  rcases dR f b with g|g|g
  .exact g
  .exact NB g c.2
  .exact NB g c.1
theorem xy(l:List NL):vI l (((l.map λs=>s.data.toList).mergeSort λx y=>decide (x<=y)).map λx=>(⟨x.toArray⟩:NL)):=by
 constructor
 .have h:=(List.mergeSort_perm (l.map λs=>s.data.toList) λx y=>decide (x<=y)).map λx:List UInt8=>(⟨x.toArray⟩:NL);rw[List.map_map] at h;have j:((λx:List UInt8=>(⟨x.toArray⟩:NL)) ∘ λs:NL=>s.data.toList)=id:=by
   funext s
   simp
  rw[j,List.map_id] at h;exact h
 .rw[List.pairwise_map];have h:=List.pairwise_mergeSort (le:=λx y:List UInt8=>decide (x<=y)) (λa b c d e=>by
   simp only[NF] at d e⊢;exact List.le_trans d e) (λa b=>by
   simp only[Bool.or_eq_true,NF];exact List.le_total a b) (l.map λs=>s.data.toList)
  refine h.imp λ{a b} f=>?_
  simp only[NF] at f;unfold aQ;rw[bytesLess_eq];simp only[NF];have i:∀x:List UInt8,(⟨x.toArray⟩:NL).toList=x:=λx=>by simp[ByteArray.toList_eq]
  rw[i,i];exact List.not_lt.2 f
theorem FN(l:List NL):(l.map λs=>s.data.toList).map encStr=l.map Value.string:=by
 rw[List.map_map];apply List.map_congr_left;intro s _;simp[encStr]
theorem Dz(w:NN)(h:Nat)(d:NM)(dc:Nat)(l:List NL)(I:l.length<=1048576)(J:h<w.heap.size)(K:w.cell? ⟨h,0,none⟩=some (.slice d l.length dc))(L:Strs w d l):Calls prog 92 #[.func (.func 190) #[] #[.c h]] w λe w'=>∃v ns,e=.returned v/\w'.ownsRow w.heap.size 9 1 v ns.length (ns.map Value.string)/\vI l ns/\K_ w w':=by
 go_enter func92,ntmps92
 go_wp2_with fail
 refine (CF w h d dc l I J K L).mono ?_;rintro e b ⟨v,rfl,i,s⟩;have X:=Kz i;rcases i.2 with⟨rfl,M⟩|⟨g,t,Y,rfl,z,j,N,A,B,C⟩
 .clear i;go_wp2_with fail
  refine (Tryz.slices_Sort_string_none none 0 b).mono ?_;rintro e D ⟨rfl,c⟩;rw[c];clear c D;go_wp2
  go_ret
  have O:=MF.1 M;refine⟨_,[],rfl,Nj _ _ _ _,by rw[O];exact⟨List.Perm.refl _,List.Pairwise.nil⟩,s⟩
 .obtain⟨a,k⟩:=aj (l.map λP=>P.data.toList);have m:a.length=l.length:=by rw[k];simp
  have E:Holds encStr b g 0 a.toArray:=holds_of_block j (by rw[m,k,FN];simpa using C);have F:=Kz (Tryz.slices_Sort_string g 0 t a b E (aM j) E5);have Q:Hid (∀n f,b.grownBy (grow (putRow encStr (Sort.ahead b n) g 0 (a.mergeSort λx y=>decide (x<=y)).toArray) f) (some g)/\(grow (putRow encStr (Sort.ahead b n) g 0 (a.mergeSort λx y=>decide (x<=y)).toArray) f).ownsRow w.heap.size 9 1 (.b g a.length t) a.length ((a.mergeSort λx y=>decide (x<=y)).map encStr)):=λn f=>⟨grownBy_sorted _,ownsRow_sorted E9 z j E5 A (by simpa using B)⟩
  rw[m] at F;have⟨R,G⟩:=aH k m;clear i C B A N j E k m;go_wp2_with fail
  refine F.o.mono ?_;rintro e D ⟨rfl,n,f,c⟩;let⟨q,p⟩:=Q.o n f;rw[<-c] at q p;rw[G.o] at p;have⟨T,U⟩:=aH q p;clear q p c;go_wp2
  go_ret
  have H:=xy l;rw[<-R.o] at H;have V:((a.mergeSort λx y=>decide (x<=y)).map λx=>(⟨x.toArray⟩:NL)).length=l.length:=by simp[G.o]
  have W:((a.mergeSort λx y=>decide (x<=y)).map λx=>(⟨x.toArray⟩:NL)).map Value.string= (a.mergeSort λx y=>decide (x<=y)).map encStr:=by rw[List.map_map];rfl
  refine⟨_,_,rfl,by rw[V,W];exact U.o,H,?_⟩;exact (But.aI (S:=λr=>r=g) T.o λr e=>(Nl e).symm).kept s (λr e=>by rw[e];exact z)
theorem uI{Kq:List Qz}{ts:List Zk}{ws:NL->List Nat}(b:BS Kq ts ws)(h:nX (Kk Kq) (Qq (Qj ts)))(n s:NL):Av ts ws n s↔bG (Kk Kq) (Qq (Qj ts)) n s:=by
 constructor
 .rintro⟨t,c,rfl,j⟩;have k:=bJ b.good.asc (Nk (f:=λt:Zk=>t.r) c);exact (Ca b.good.env h k s).1 ((b.wt s t c).1 j)
 .intro i;obtain⟨r,e⟩:∃r,Qq (Qj ts) n=some r:=by let⟨r,_,e,_⟩:=i;exact⟨r,e⟩
  let⟨l,m⟩:=aZ e;obtain⟨t,c,rfl⟩:=MM.1 l;exact⟨t,c,m,(b.wt s t c).2 ((Ca b.good.env h e s).2 i)⟩
theorem DR{w:NN}{mo N:Nat}{D:DataW NP}(h:w.ownsMap prog 9 asIs mo N D){d:List (List UInt8)}(j:d.Perm (strKeys D)):∃nm:List NL,nm.length=d.length/\nm.map Value.string= (d.mergeSort λx y=>decide (x<=y)).map encStr/\qJ nm/\∀s,s∈nm↔Maps.has D (dL s)=true:=by
 let⟨b,z,B,_⟩:=h.entries Tryz.keyed;let⟨C,A,E⟩:=h.keysOf;obtain rfl:b=C:=by rw[z] at A;simpa using A
 subst z;have k:∀p∈b,∃x,p.1=.string x:=λp j=>by let⟨v,F⟩:=E p j;let⟨x,_,G,_⟩:=Maps.keyOf_str underlying9 F;exact⟨x,G⟩
 have H:(strKeys (.map b)).Nodup:=by
  refine List.pairwise_map.2 (B.imp_of_mem λ{p I} c J n e=>n ?_);let⟨a,f⟩:=k p c;let⟨K,L⟩:=k I J;rw[f,L] at e⊢;exact congrArg _ e
 have M:∀x,x∈strKeys (.map b)↔Maps.has (.map b) (.string x)=true:=λx=>by
  rw[Maps.has_eq,List.any_eq_true];show x∈b.map (λp=>strOf p.1)↔_;rw[MM];constructor
  .rintro⟨p,c,rfl⟩;let⟨a,f⟩:=k p c;exact⟨p,c,by rw[f];simp[Lit.sameKey,strOf]⟩
  .rintro⟨p,c,i⟩;let⟨a,f⟩:=k p c;rw[f] at i;exact⟨p,c,by rw[f];simpa[Lit.sameKey,strOf] using i⟩
 obtain⟨l,O⟩:∃l:List NL,l=d.map λx=>(⟨x.toArray⟩:NL):=⟨_,rfl⟩
 have q:(l.map λs=>s.data.toList)=d:=by
  rw[O,List.map_map];have e:((λs:NL=>s.data.toList) ∘ λx:List UInt8=>(⟨x.toArray⟩:NL))=id:=by funext x;simp
  rw[e,List.map_id]
 have i:=xy l;rw[q] at i;have P:l.Nodup:=by
  have m:=j.nodup_iff.2 H;rw[<-q] at m;exact (List.pairwise_map.1 m).imp λ{a K} n e=>n (by rw[e])
 let⟨m,Q⟩:=i.asc P;refine⟨_,E9,by rw[List.map_map];rfl,m,λs=>?_⟩;rw[Q];show s∈l↔Maps.has (.map b) (.string s.data.toList)=true;rw[<-M,<-j.mem_iff,<-q];constructor
 .intro r;exact Nk r
 .intro r;let⟨t,R,S⟩:=MM.1 r;have:t=s:=by
   have T:t.data=s.data:=by have:=congrArg List.toArray S;simpa using this
   cases t;cases s;simp_all
  rw[<-this];exact R
structure uD (w:NN)(mo:Nat)(kp:NL->Prop)(ol:NL->List NL):Prop where
 map:∃N D,N<=1000000/\w.ownsMap prog 9 asIs mo N D/\(∀s:NL,s.size<=maxLen->∃a c,D.atKey (dL s) (.held M3)=.held (.slice a (ol s).length c)/\Strs w a (ol s))/\∀s:NL,Maps.has D (dL s)=true↔kp s
 sub:∀s,ol s≠[]->kp s
theorem uD.look{w w':NN}{mo:Nat}{e:NL->Prop}{ol:NL->List NL}(h:uD w mo e ol)(k:K_ w w'){s:NL}(d:s.size<=maxLen):∃a c,(Instr.lookup 121 (.map (some mo)) (.string s) false).run prog w'=.ok (.slice a (ol s).length c) w'/\Strs w' a (ol s):=by
 let⟨N,D,_,f,i,_⟩:=h.map;have j:=iQ (S:=λ_=>False) f (But.ax k) id;let⟨v,q,l,b⟩:=j.lookup Tryz.keyed underlying121 (Tryz.EE w') (zd:=.held M3) (zp:=[]) rfl (WideMaps.keyOf_string_mk underlying9 d);let⟨a,c,m,n⟩:=i s d;refine⟨a,c,?_,n.kept k⟩;unfold asIs at b;simp only[Na,Prod.mk.injEq] at b;have p:=b.1.trans m;cases p;exact l
def Ei(k:Nat):Nat:=k*1000000
theorem Fw(k:Nat):Ei (k+1)=Ei k+1000000:=by unfold Ei;omega
theorem EU{k:Nat}(h:k<=60):Ei k<=60000000:=by unfold Ei;omega
def He(kp:NL->Prop)(ol:NL->List NL)(w w':NN)(e:Ending):Prop:=∃(na:NM)(nc:Nat)(nm:List NL)(nb mb M:Nat)(need back:Nat->List Nat),e=.returned (.agg #[.slice na nm.length nc,.b nb nm.length nm.length,.b mb nm.length nm.length])/\qJ nm/\(∀s,s∈nm↔kp s)/\uS w' na nm nb mb need back/\CR (λx y=>y∈ol x) nm M need back/\M<=60000000/\K_ w w'
structure ObM (u:NN)(ob:Nat)(na:NM)(nc n nb mb:Nat):Prop where
 c0:u.cell? ⟨ob,0,none⟩=some (.slice na n nc)
 c1:u.cell? ⟨ob,1,none⟩=some (.b nb n n)
 c2:u.cell? ⟨ob,2,none⟩=some (.b mb n n)
 ty:bA u ob 187
variable {mb n nb nc ob:Nat}{na:NM}{u:NN}
theorem ObM.lt(h:ObM u ob na nc n nb mb):ob<u.heap.size:=by
 let⟨c,f,b⟩:=h.ty;exact aM b
theorem ObM.but{S:Nat->Prop}{b:NN}(h:ObM u ob na nc n nb mb)(k:But S u b)(a:¬S ob):ObM b ob na nc n nb mb:=⟨(k.cell h.lt a).trans h.c0,(k.cell h.lt a).trans h.c1,(k.cell h.lt a).trans h.c2,by
  let⟨c,f,d⟩:=h.ty;exact⟨c,f,(k.block _ h.lt a).trans d⟩⟩
theorem ObM.kept{a:NN}(h:ObM u ob na nc n nb mb)(k:K_ u a):ObM a ob na nc n nb mb:=h.but (S:=λ_=>False) (But.ax k) id
def TabJ(w2:NN)(na:NM)(nc n:Nat)(a b:Act)(u:NN):Prop:=∃ob nb mb,b= {a with tmps:=((((((((a.tmps.setIfInBounds 14 (.slice na n nc)).setIfInBounds 15 (.slice na n nc)).setIfInBounds 16 (.a (n:Int))).setIfInBounds 17 (.b nb n n)).setIfInBounds 18 (.slice na n nc)).setIfInBounds 19 (.a (n:Int))).setIfInBounds 20 (.b mb n n)).setIfInBounds 21 (.agg #[.slice na n nc,.b nb n n,.b mb n n])).setIfInBounds 4 (.c ob)}/\
  ObM u ob na nc n nb mb/\u.rowIs nb 87 n (λ_=>.slice none 0 0)/\u.rowIs mb 87 n (λ_=>.slice none 0 0)/\nb≠mb/\w2.heap.size<=nb/\w2.heap.size<=mb/\K_ w2 u
theorem qR{b:Nat}{t:TypeId}{v:NP}(h:u.heap[b]? =some (.cells (madeCells #[v] n) t)):u.rowIs b t n (λ_=>v):=by
 let⟨c,a,d⟩:=World.rowIs_made u v n t;rw[heap_alloc_new] at a;cases a;exact⟨_,h,d⟩
theorem bK(w2:NN)(a b c:Obj):((((w2.alloc a).alloc b).alloc c).drew).heap[w2.heap.size]? =some a/\((((w2.alloc a).alloc b).alloc c).drew).heap[w2.heap.size+1]? =some b/\((((w2.alloc a).alloc b).alloc c).drew).heap[w2.heap.size+1+1]? =some c/\K_ w2 (((w2.alloc a).alloc b).alloc c).drew:=by
 have e:=heap_alloc_new w2 a;have d:=heap_alloc_new (w2.alloc a) b;have f:=heap_alloc_new ((w2.alloc a).alloc b) c;rw[MZ] at d;rw[MZ,MZ] at f;have h:K_ ((w2.alloc a).alloc b) (((w2.alloc a).alloc b).alloc c).drew:=(ah _ _).drew;have i:K_ (w2.alloc a) (((w2.alloc a).alloc b).alloc c).drew:=((ah _ _).alloc _).drew;exact⟨(i.block _ (aM e)).trans e,(h.block _ (aM d)).trans d,f,(((ah _ _).alloc _).alloc _).drew⟩
theorem kr{w2:NN}(a:u.heap[ob]? =some (.cells #[.slice na n nc,.b nb n n,.b mb n n] 187))(b:u.heap[nb]? =some (.cells (madeCells #[M3] n) 87))(h2:u.heap[mb]? =some (.cells (madeCells #[M3] n) 87))(c:nb≠mb)(d:w2.heap.size<=nb)(e:w2.heap.size<=mb)(k:K_ w2 u):ObM u ob na nc n nb mb/\u.rowIs nb 87 n (λ_=>.slice none 0 0)/\u.rowIs mb 87 n (λ_=>.slice none 0 0)/\nb≠mb/\w2.heap.size<=nb/\w2.heap.size<=mb/\K_ w2 u:=⟨⟨by simp[World.cell?,a],by simp[World.cell?,a],by simp[World.cell?,a],⟨_,_,a⟩⟩,qR b,qR h2,c,d,e,k⟩
theorem Tryz.GU :(prog.info? 187).map (·.size)=some 3:=F4
theorem Tryz.Jw :(prog.info? 3).map (λi=>(i.zero,i.size,i.bytes))=some (some (.a 0),1,8):=F4
theorem Tryz.JF :(prog.info? 87).map (λi=>(i.zero,i.size,i.bytes))=some (some M3,1,24):=F4
theorem CY(w:NN)(mo:Nat)(kp:NL->Prop)(ol:NL->List NL)(all:List NL)(m7:∀s,kp s->s∈all)(m8:all.length<=60)(m9:∀s,kp s->s.size<=20)(n0:∀s,(ol s).length<=1000000)(hL:uD w mo kp ol):Calls prog 129 #[.map (some mo)] w λe w'=>He kp ol w w' e:=by
 let⟨n1,n2,hN,hM,hf,i0⟩:=hL.map;have n3:=hM.size_le;let⟨W0,b0⟩:=aj (w.alloc (.cells #[M3,M3,M3] 187));have k0:K_ w W0:=by rw[b0];exact ah _ _
 have n4:Hid (ay W0 w.heap.size 187 3):=by rw[b0];exact ay.made w #[M3,M3,M3] 187
 have i1:=iQ (S:=λ_=>False) hM (But.ax k0) id;have i2:=Kz (callsIn_wide.1 (Tryz.yV (some mo) W0));have i3:=Kz (callsIn_wide.1 (Tryz.lK mo n1 n2 asIs W0 i1 F5 E5));have⟨HM,e7,HL⟩:=di hM i0 hL;clear hM i1 hf i0 hL n3;go_enter func129,ntmps129
 go_upto_region 1 with fail
 rw[<-b0];have p7:w.heap.size+1=W0.heap.size:=by rw[b0];simp
 clear b0;go_wp2_with fail
 refine i2.o.mono ?_;rintro e w1 ⟨rfl,i4⟩;rw[i4];clear i4 w1;go_wp2_with fail
 refine i3.o.mono ?_;rintro e b ⟨v,ss,rfl,hp,d0,n5,hb⟩;let⟨d,i5,i6,e8,e9⟩:=DR HM.o hp;rw[<-i6,<-i5] at d0;have k2:K_ W0 b:=K_.trans (ah _ _) hb;let⟨na,R,X,i7⟩:=bO d0;subst X;have i8:d.length<=60:=by
  refine Mm (List.Nodup.length_le_of_subset ?_ λx hx=>m7 x ((e7.o x).1 ((e9 x).1 hx))) m8;exact e8.imp λ{a f} n6=>dO n6
 have⟨f0,i9,j0,f1⟩:=nC i7 d0 k2 e8;have f2:Hid (∀s,s∈d↔kp s):=λs=>(e9 s).trans (e7.o s)
 have K2:=k0.trans k2;clear hp d0 n5 hb i5 i6 e9 i7 e8 i2 i3 k2 k0 e7 HM;let⟨n,hn⟩:=aj d.length;rw[<-hn] at i8⊢;have b1:=Kz hn;clear hn;have n7:=run_make_row' (P:=prog) 185 87 _ _ underlying185 Tryz.JF rfl .i64 .i64 n E5 E5;go_upto_region 2 with fail
 refine uP (TabJ b na R n) ?_ ?_
 .go_region
  .refine⟨rfl,b.heap.size+1+1,b.heap.size,b.heap.size+1,?_,kr (bK b _ _ _).2.2.1 (bK b _ _ _).1 (bK b _ _ _).2.1 E5 E5 E5 (bK b _ _ _).2.2.2⟩;simp only[List.setIfInBounds_toArray,List.set_cons_zero,Nn]
  .refine⟨rfl,b.heap.size+1,b.heap.size,b.heap.size+1+1,?_,kr (bK b _ _ _).2.1 (bK b _ _ _).1 (bK b _ _ _).2.2.1 E5 E5 E5 (bK b _ _ _).2.2.2⟩;simp only[List.setIfInBounds_toArray,List.set_cons_zero,Nn]
  .refine⟨rfl,b.heap.size+1+1,b.heap.size+1,b.heap.size,?_,kr (bK b _ _ _).2.2.1 (bK b _ _ _).2.1 (bK b _ _ _).1 E5 E5 E5 (bK b _ _ _).2.2.2⟩;simp only[List.setIfInBounds_toArray,List.set_cons_zero,Nn]
  .refine⟨rfl,b.heap.size+1,b.heap.size+1+1,b.heap.size,?_,kr (bK b _ _ _).2.1 (bK b _ _ _).2.2.1 (bK b _ _ _).1 E5 E5 E5 (bK b _ _ _).2.2.2⟩;simp only[List.setIfInBounds_toArray,List.set_cons_zero,Nn]
  .refine⟨rfl,b.heap.size,b.heap.size+1,b.heap.size+1+1,?_,kr (bK b _ _ _).1 (bK b _ _ _).2.1 (bK b _ _ _).2.2.1 E5 E5 E5 (bK b _ _ _).2.2.2⟩;simp only[List.setIfInBounds_toArray,List.set_cons_zero,Nn]
  .refine⟨rfl,b.heap.size,b.heap.size+1+1,b.heap.size+1,?_,kr (bK b _ _ _).1 (bK b _ _ _).2.2.1 (bK b _ _ _).2.1 E5 E5 E5 (bK b _ _ _).2.2.2⟩;simp only[List.setIfInBounds_toArray,List.set_cons_zero,Nn]
 rintro f u ⟨Y,l,p,rfl,j1,f3,f4,n8,n9,o0,O⟩;clear n7;simp only[List.setIfInBounds_toArray,List.set_cons_zero,Nn];have K3:=K2.trans O;have j2:=O.size;have p8:=Kz (f0.o.kept O);have d1:Hid (oO u u.heap.size n (λc=>if c=true then l else p) (λ_ _=>.slice none 0 0) λ_ _=>[]):=by
  refine⟨λc=>?_,by simpa using n8,λc r=>Nj _ _ _ _,λc r c' p' _ x h=>(by cases h)⟩;cases c
  .exact f4
  .exact f3
 have j3:=Kz j1;have p9:=fF f3;have q0:=fF f4;have j4:Hid (gH (λx y=>y∈ol x) d 0 [] 0 0 (λ_=>[]) λ_=>[]):=gH.start _ _ _;have j5:=O;clear f3 f4 j1 O;go_wp2
 go_loopw [24] (λx wr=>∃(k M:Nat)(g:Bool->Nat->NP)(L:Bool->Nat->List Nat),k<=n/\x=.a (k:Int)/\M<=Ei k/\Hid (oO wr u.heap.size n (λc=>if c=true then l else p) g L)/\Hid (gH (λx y=>y∈ol x) d k [] 0 M (L true) (L false))/\Hid (ObM wr Y na R n l p)/\K_ b wr/\u.heap.size<=wr.heap.size) (λx _=>n-(intOf x).toNat)
 case atStart=>exact⟨0,0,_,_,Ml _,rfl,Ml _,d1,j4,j3,j5,Mj _⟩
 case round=>
  clear d1 j4 j3 j5;obtain⟨k,M,g,L,hk,rfl,j6,D,T,Q,E,Z⟩:=hrel;by_cases j7:k<n;rotate_left
  .obtain rfl:=b1.o;have o1:k=d.length:=E5;subst o1;let⟨q1,q2,q3,o2⟩:=Q.o;have b2:=n4.o.kept (j0.o.trans E);let⟨⟨_,x0⟩,q4⟩:=b2.row.at (i:=0) E5;let⟨⟨_,x1⟩,q5⟩:=b2.row.at (i:=1) E5;let⟨⟨_,x2⟩,g2⟩:=b2.row.at (i:=2) E5;have o3:=Kz b2;clear b2 o2;go_wp2_with fail
   have hR:=Mo wr w.heap.size 0 [.slice na d.length R,.b l d.length d.length,.b p d.length d.length] (o3.o.row.there (o:=0) (m:=3) (Mj _));have kf:But (λf=>f=w.heap.size) wr (wr.setCells w.heap.size 0 [.slice na d.length R,.b l d.length d.length,.b p d.length d.length]):=But.set (S:=λf=>f=w.heap.size) (But.set (S:=λf=>f=w.heap.size) (But.set (S:=λf=>f=w.heap.size) (But.ax (K_.refl wr)) (p:=⟨w.heap.size,0,none⟩) rfl _) (p:=⟨w.heap.size,1,none⟩) rfl _) (p:=⟨w.heap.size,2,none⟩) rfl _;have q6:=j0.o.size;refine Zx [.slice na d.length R,.b l d.length d.length,.b p d.length d.length] _ results129 rfl hR underlying187 rfl Tryz.GU rfl ⟨na,R,d,l,p,M,L true,L false,rfl,f1.o,f2.o,?_,T.o.whole,Mm j6 (EU i8),kf.kept (K2.trans E) λf e=>by rw[e];exact Mj _⟩;have o4:=kf.owns (au i9.o E) (λf e F=>by have:=(i9.o.lt f e).1;rw[MZ] at this;omega);let⟨a9,c9,X,a7⟩:=bO o4;simp only[Nb,true_and] at X;rw[<-X.1] at a7;exact oO.read (D.o.but kf (λc e=>by cases c<;>simp at e<;>omega) λc r f e F=>by have:=((D.o.own c r).lt f e).1;omega) a7
  have b3:k<d.length:=by have:=b1.o;omega
  let⟨rb,ro,e1,o5,j8⟩:=(f0.o.kept E) k b3;subst e1;let⟨s,hs⟩:=aj (d.getD k ByteArray.empty);rw[<-hs] at j8;have f5:d[k]=s:=by rw[hs];simp[List.getD,b3]
  have j9:kp s:=(f2.o s).1 (by rw[<-f5];exact Mw b3);have k1:s.size<=maxLen:=by have:=m9 s j9;unfold maxLen;omega
  let⟨la,lc,k3,f6⟩:=HL.o.look (K2.trans E) k1;have k5:=Kz f5;have f7:=n0 s;let⟨d2,hQ⟩:=aj (ol s);rw[<-hQ] at k3 f6 f7;have⟨HQ,k6⟩:=aH hQ f6;have q7:(k:Int)<(n:Int):=E5;clear hs f5 j9 k1 hQ f6;go_wp2_with fail
  refine (DN wr la d2.length lc).mono ?_;rintro e w3 ⟨rfl,d3⟩;have O:K_ wr w3:=by rw[d3];exact ah _ _
  have b4:w3.cell? ⟨wr.heap.size,0,none⟩=some (.slice la d2.length lc):=by rw[d3];exact X_ wr #[.slice la d2.length lc] 26 0 _ rfl
  have k7:wr.heap.size<w3.heap.size:=by rw[d3];simp
  clear d3 k3 j8;go_wp2_with fail
  refine (Dz w3 wr.heap.size la lc d2 E5 k7 b4 (k6.o.kept O)).mono ?_;rintro e w4 ⟨q8,C,rfl,f8,f9,k4⟩;obtain⟨o6,o7,rfl⟩:=aF f8;have q9:C.length<=1000000:=by rw[f9.1.length_eq];exact f7
  have⟨g0,U⟩:=aH f9 f8;have k8:=Kz (D.o.kept (O.trans k4));have k9:=Kz (Q.o.kept (O.trans k4));have l0:=Kz (T.o.enter C);have K4:=E.trans (O.trans k4);have l1:=Mm Z (O.trans k4).size;have r0:=(E.trans O).size;clear f8 f9 b4 k7 D Q T O k4 E Z k6 f7 o5;go_wp2
  go_loopw [35] (λx wr=>∃(j M:Nat)(g:Bool->Nat->NP)(L:Bool->Nat->List Nat),j<=C.length/\x=.a (j:Int)/\M<=Ei k+j/\Hid (oO wr u.heap.size n (λc=>if c=true then l else p) g L)/\Hid (gH (λx y=>y∈ol x) d k C j M (L true) (L false))/\Hid (ObM wr Y (some ⟨rb,ro,none⟩) R n l p)/\Hid (wr.ownsRow w3.heap.size 9 1 (.slice o6 C.length o7) C.length (C.map Value.string))/\K_ b wr/\u.heap.size<=wr.heap.size) (λx _=>C.length-(intOf x).toNat)
  case atStart=>exact⟨0,M,g,L,Ml _,rfl,E5,k8,l0,k9,U,K4,l1⟩
  case round=>
   clear k8 l0 k9 U K4 l1 j6;obtain⟨j,M,g,L,hj,rfl,r1,D,T,Q,U,E,Z⟩:=hrel;by_cases d4:j<C.length;rotate_left
   .have o8:C.length<=j:=E5;have g1:Hid (gH (λx y=>y∈ol x) d (k+1) [] 0 M (L true) (L false)):=T.o.leave b3 o8 (λy=>by rw[g0.o.1.mem_iff,HQ.o,k5.o]);go_wp2
    go_roundw
    case rel=>exact⟨k+1,M,g,L,E5,F3,by rw[Fw];omega,D,g1,Q,E,Z⟩
    case measure=>simp[intOf];omega
   let⟨a9,c9,X,a7⟩:=bO U.o;simp only[Nb,true_and] at X;rw[<-X.1] at a7;let⟨qb,qo,e1,r2,g4⟩:=a7 j d4;subst e1;let⟨s',g5⟩:=aj (C.getD j ByteArray.empty);rw[<-g5] at g4;have l2:C[j]=s':=by rw[g5];simp[List.getD,d4]
   have l3:=Kz l2;have o9:Hid (Calls prog 170 #[.slice (some ⟨rb,ro,none⟩) n R,.string s'] wr λe w'=>ry d s' e/\w'=wr):=by
    show Calls _ _ _ _ _;rw[b1.o];exact BR wr _ R d s' (by have:=b1.o;omega) f1.o (f0.o.kept E)
   have r3:(j:Int)<(C.length:Int):=E5;clear X a7 g5 l2;go_wp2_with fail
   refine o9.o.mono ?_;rintro e w5 ⟨⟨q,bq,rfl,g6,g7⟩,l4⟩;rw[l4];clear l4 w5;cases bq
   .have p0:=Kz (g7 rfl);clear g6 g7 g4;have g1:Hid (gH (λx y=>y∈ol x) d k C (j+1) M (L true) (L false)):=T.o.skip d4 (by rw[l3.o];exact p0.o);go_wp2
    go_roundw
    case rel=>exact⟨j+1,M,g,L,E5,F3,E5,D,g1,Q,U,E,Z⟩
    case measure=>simp[intOf];omega
   let⟨l5,l6⟩:=g6 rfl;have l7:q<n:=by have:=b1.o;omega
   have p1:Hid (d[q]=s'):=by show d[q]=s';rw[<-l6];simp[List.getD,l5]
   have l8:Hid (gH (λx y=>y∈ol x) d k C (j+1) (M+1) (λr=>if r=k then L true k++[q] else L true r) λr=>if r=q then L false q++[k] else L false r):=T.o.put ⟨f1.o,λx y l9=>(f2.o x).2 (HL.o.sub x λe=>by rw[e] at l9;cases l9)⟩ d4 g0.o.2 l5 (by rw[p1.o,l3.o]) b3 (λy hy=>by rw[g0.o.1.mem_iff,HQ.o] at hy;rw[k5.o];exact hy);have r4:=EU (show k<=60 by omega);have r5:=(T.o.len k).1;have p2:=(T.o.len q).2;let⟨ic,m0,m1,m2,b4⟩:=info_parts Tryz.Jw;clear g6 g7 l6 g4;let⟨d5,d6,g8⟩:=aF (D.o.own true k);have d7:=Kz g8;have rA:wr.cell? ⟨l,k,none⟩=some (.slice d5 (L true k).length d6):=by have h:=(D.o.row true).cell j7;rw[g8] at h;exact h
   have g9:Hid (∀w',K_ wr w'->w'.cell? ⟨Y,1,none⟩=some (.b l n n)/\w'.cell? ⟨l,k,none⟩=some (.slice d5 (L true k).length d6)):=λw' K=>⟨(K.cell Q.o.lt).trans Q.o.c1,(K.cell (fF (D.o.row true))).trans rA⟩
   clear g8 rA;go_upto_region 11 with fail
   refine bF 12 g9.o λG KD H=>?_
   refine ak 0 H ?_;refine ak 4 H ?_;refine ae 8 H ?_;refine ai 9 λK A=>?_;go_simp
   have K5:K_ G (G.alloc (.cells #[.a (q:Int)] 3)):=ah _ _;have V:(G.alloc (.cells #[.a (q:Int)] 3)).cell? ⟨G.heap.size,0,none⟩=some (.a (q:Int)):=X_ G #[.a (q:Int)] 3 0 _ rfl;have I:=KD.trans K5;refine A.out _ _ (λ_=>g9.o _ I) ?_;clear A K H;have t:=Kz (D.o.kept I);have B:=Kz (Q.o.kept I);let⟨eb,b5⟩:=aj G.heap.size;rw[<-b5] at V⊢;generalize h0:G.alloc (.cells #[.a (q:Int)] 3)=w6 at V I t B⊢;clear h0 K5 b5 KD;have a2:=t.o.own true k;rw[d7.o] at a2;have b6:=Kz a2;have b7:=Mm (Z) I.size;clear a2;try simp only[upP]
   refine ai 10 λK A=>?_;refine step_append_lies _ rfl (.tmp 53) (.tmp 55) 87 rfl u.heap.size 3 ic _ 1 8 underlying87 m0 m1 m2 b4 rfl E8 (.slice d5 (L true k).length d6) (L true k).length ((L true k).map jG) rfl b6.o ⟨eb,0,none⟩ 1 1 [.a (q:Int)] rfl rfl (λj u z=>?_) (λu z=>?_) E8 F5 E5 b7 w6.heap.size rfl ?_
   .match j,z with
    |0,z=>simp at z;subst z;rw[Nf];exact V
    |j+1,z=>simp at z
   .simp at z;subst z;rfl
   intro gb gc J b8 W a3 h1;rw[<-d7.o] at W a3;let⟨b9,c0⟩:=t.o.put true k (x:=q) b8 W (λy e=>by simp only[Value.ownBlock,Na] at e;subst e;rcases a3 with h|h;exact .inl h;exact .inr (MN h.symm));have a4:But (λf=>(g true k).ownBlock=some f) w6 J:=But.aI W λf e=>e;have a5:J.rowIs l 87 n (g true):=gp (t.o.row true) (a4.block _ (fF (t.o.row true)) λe=>aU (gF (t.o.row true)) (Y_ (t.o.own true k) e) E8 rfl);have h2:=a5.frozen k;have c3:=a5.cell j7;have c4:J.cell? ⟨Y,1,none⟩=some (.b l n n):=(a4.cell B.o.lt λe=>aU B.o.ty (Y_ (t.o.own true k) e) E8 rfl).trans B.o.c1;have a6:Hid (J.cell? ⟨Y,1,none⟩=some (.b l n n)/\J.cell? ⟨l,k,none⟩=some (.slice d5 (L true k).length d6)):=⟨c4,by rw[c3,d7.o]⟩;have⟨h3,d8⟩:=aH b9 c0;refine A.out _ _ (λ_=>a6.o) ?_;clear A K b9 c0 b8 W a3 a4 a5 c4 h1 V;have H:=a6.o;try simp only[upP]
   refine ae 11 H ?_;refine ai 12 λK A=>?_;go_simp
   refine af A (λh=>NB rfl h) ?_;clear A K H;refine aC ?_;have m3:=Kz (But.ax (S:=λy=>(g true k).ownBlock=some y\/y= (if true=true then l else p)) I);have c5:=Kz (m3.out.trans d8.o);have d9:=Kz (B.o.but d8.o (λe=>by
    rcases e with e|e
    .exact aU B.o.ty (Y_ (t.o.own true k) e) E8 rfl
    .exact aU B.o.ty (gF (t.o.row true)) E8 e))
   generalize c6:J.setCell ⟨(if true=true then l else p),k,none⟩ (.b gb ((L true k).length+1) gc)=a8 at h3 d8 d9 c5;have c7:J.setCell ⟨l,k,none⟩ (.b gb ((L true k).length+1) gc)=a8:=c6;rw[c7];clear c6 c7 c3 h2 a6 b6 b7 d7 g9 m3 d8 t B I;have h4:∃(g2:Bool->Nat->NP)(N:Bool->Nat->List Nat),Hid (oO a8 u.heap.size n (λc=>if c=true then l else p) g2 N)/\Hid (N=λc r=>if c=true/\r=k then L true k++[q] else L c r):=⟨_,_,h3,Kz rfl⟩;let⟨g2,N,a0,h5⟩:=h4;have r6:(N false q).length<=M:=by rw[h5.o];simpa using p2
   have e0:=Kz (c5.o.owns U.o (λf e F=>by
    rcases F with F|F
    .exact aU (Y_ U.o e) (Y_ (D.o.own true k) F) E8 rfl
    .exact aU (Y_ U.o e) (gF (D.o.row true)) E8 F))
   have KA:K_ b a8:=c5.o.kept E (λf e=>by
    rcases e with e|e
    .exact Mm j2 ((D.o.own true k).lt f e).1
    .rw[e];exact n9)
   have h6:=Mm Z c5.o.size;have p3:=E;clear h3 c5 D Q U E Z p3;let⟨e2,e3,h7⟩:=aF (a0.o.own false q);have e4:=Kz h7;have rB:a8.cell? ⟨p,q,none⟩=some (.slice e2 (N false q).length e3):=by have h:=(a0.o.row false).cell l7;rw[h7] at h;exact h
   have h8:Hid (∀w',K_ a8 w'->w'.cell? ⟨Y,2,none⟩=some (.b p n n)/\w'.cell? ⟨p,q,none⟩=some (.slice e2 (N false q).length e3)):=λw' K=>⟨(K.cell d9.o.lt).trans d9.o.c2,(K.cell (fF (a0.o.row false))).trans rB⟩
   clear h7 rB;go_upto_region 12 with fail
   refine bF 12 h8.o λG KD H=>?_
   refine ak 0 H ?_;refine ak 4 H ?_;refine ae 8 H ?_;refine ai 9 λK A=>?_;go_simp
   have K5:K_ G (G.alloc (.cells #[.a (k:Int)] 3)):=ah _ _;have V:(G.alloc (.cells #[.a (k:Int)] 3)).cell? ⟨G.heap.size,0,none⟩=some (.a (k:Int)):=X_ G #[.a (k:Int)] 3 0 _ rfl;have I:=KD.trans K5;refine A.out _ _ (λ_=>h8.o _ I) ?_;clear A K H;have t:=Kz (a0.o.kept I);have B:=Kz (d9.o.kept I);let⟨eb,b5⟩:=aj G.heap.size;rw[<-b5] at V⊢;generalize h0:G.alloc (.cells #[.a (k:Int)] 3)=w6 at V I t B⊢;clear h0 K5 b5 KD;have a2:=t.o.own false q;rw[e4.o] at a2;have b6:=Kz a2;have b7:=Mm (h6) I.size;clear a2;try simp only[upP]
   refine ai 10 λK A=>?_;refine step_append_lies _ rfl (.tmp 65) (.tmp 67) 87 rfl u.heap.size 3 ic _ 1 8 underlying87 m0 m1 m2 b4 rfl E8 (.slice e2 (N false q).length e3) (N false q).length ((N false q).map jG) rfl b6.o ⟨eb,0,none⟩ 1 1 [.a (k:Int)] rfl rfl (λj u z=>?_) (λu z=>?_) E8 F5 E5 b7 w6.heap.size rfl ?_
   .match j,z with
    |0,z=>simp at z;subst z;rw[Nf];exact V
    |j+1,z=>simp at z
   .simp at z;subst z;rfl
   intro gb gc J b8 W a3 h1;rw[<-e4.o] at W a3;let⟨b9,c0⟩:=t.o.put false q (x:=k) b8 W (λy e=>by simp only[Value.ownBlock,Na] at e;subst e;rcases a3 with h|h;exact .inl h;exact .inr (MN h.symm));have a4:But (λf=>(g2 false q).ownBlock=some f) w6 J:=But.aI W λf e=>e;have a5:J.rowIs p 87 n (g2 false):=gp (t.o.row false) (a4.block _ (fF (t.o.row false)) λe=>aU (gF (t.o.row false)) (Y_ (t.o.own false q) e) E8 rfl);have h2:=a5.frozen q;have c3:=a5.cell l7;have c4:J.cell? ⟨Y,2,none⟩=some (.b p n n):=(a4.cell B.o.lt λe=>aU B.o.ty (Y_ (t.o.own false q) e) E8 rfl).trans B.o.c2;have a6:Hid (J.cell? ⟨Y,2,none⟩=some (.b p n n)/\J.cell? ⟨p,q,none⟩=some (.slice e2 (N false q).length e3)):=⟨c4,by rw[c3,e4.o]⟩;have⟨h9,e5⟩:=aH b9 c0;refine A.out _ _ (λ_=>a6.o) ?_;clear A K b9 c0 b8 W a3 a4 a5 c4 h1 V;have H:=a6.o;try simp only[upP]
   refine ae 11 H ?_;refine ai 12 λK A=>?_;go_simp
   refine af A (λh=>NB rfl h) ?_;clear A K H;refine aC ?_;have m4:=Kz (But.ax (S:=λy=>(g2 false q).ownBlock=some y\/y= (if false=true then l else p)) I);have c8:=Kz (m4.out.trans e5.o);have m5:=Kz (B.o.but e5.o (λe=>by
    rcases e with e|e
    .exact aU B.o.ty (Y_ (t.o.own false q) e) E8 rfl
    .exact aU B.o.ty (gF (t.o.row false)) E8 e))
   generalize c6:J.setCell ⟨(if false=true then l else p),q,none⟩ (.b gb ((N false q).length+1) gc)=e6 at h9 e5 m5 c8;have c7:J.setCell ⟨p,q,none⟩ (.b gb ((N false q).length+1) gc)=e6:=c6;rw[c7];clear c6 c7 c3 h2 a6 b6 b7 e4 h8 m4 e5 t B I;have p4:=Kz (c8.o.owns e0.o (λf e F=>by
    rcases F with F|F
    .exact aU (Y_ e0.o e) (Y_ (a0.o.own false q) F) E8 rfl
    .exact aU (Y_ e0.o e) (gF (a0.o.row false)) E8 F))
   have KB:K_ b e6:=c8.o.kept KA (λf e=>by
    rcases e with e|e
    .exact Mm j2 ((a0.o.own false q).lt f e).1
    .rw[e];exact o0)
   have p5:=Mm h6 c8.o.size;have h4:∃(g3:Bool->Nat->NP)(a1:Bool->Nat->List Nat),Hid (oO e6 u.heap.size n (λc=>if c=true then l else p) g3 a1)/\Hid (a1=λc r=>if c=false/\r=q then N false q++[k] else N c r):=⟨_,_,h9,Kz rfl⟩;let⟨g3,a1,d1,m6⟩:=h4;have p6:Hid (gH (λx y=>y∈ol x) d k C (j+1) (M+1) (a1 true) (a1 false)):=by
    have e1:a1 true=λr=>if r=k then L true k++[q] else L true r:=by funext r;rw[m6.o,h5.o];simp
    have F:a1 false=λr=>if r=q then L false q++[k] else L false r:=by funext r;rw[m6.o,h5.o];simp
    show gH _ _ _ _ _ _ _ _;rw[e1,F];exact l8.o
   clear h9 c8 a0 e0 KA h6 l8;go_wp2
   go_roundw
   case rel=>exact⟨j+1,M+1,g3,a1,E5,F3,E5,d1,p6,m5,p4,KB,p5⟩
   case measure=>simp[intOf];omega
def JV(nm:List NL)(ps:List Nat)(w w':NN)(e:Ending):Prop:=∃da:NM,e=.returned (.slice da (ps.map (nameOf nm)).length (ps.map (nameOf nm)).length)/\cB w' w.heap.size w'.heap.size da (ps.map (nameOf nm))/\K_ w w'
theorem Ir(w:NN)(na:NM)(nc:Nat)(a:List NL)(v1 v2:NP)(_h1c:v1.oneCell'=true)(_h2c:v2.oneCell'=true)(C:NM)(K:Nat)(ps:List Nat)(D:∀p∈ps,p<a.length)(b5:ps.length<=1000)(_hnl:a.length<=1000)(L:∀s∈a,s.size<=1048576)(M:Strs w na a)(N:t_ w C ps):Calls prog 130 #[.agg #[.slice na a.length nc,v1,v2],.slice C ps.length K] w λe w'=>JV a ps w w' e:=by
 let⟨O,P,Q,R,S⟩:=aW Tryz.fA;let⟨b,l⟩:=aj (w.alloc (.cells #[.slice na a.length nc,v1,v2] 187));have m:K_ w b:=by rw[l];exact ah _ _
 have T:b.cell? ⟨w.heap.size,0,none⟩=some (.slice na a.length nc):=by rw[l];exact X_ w #[.slice na a.length nc,v1,v2] 187 0 _ rfl
 have U:w.heap.size<b.heap.size:=by rw[l];simp
 go_enter func130,ntmps130
 go_upto_region 1 with fail
 rw[<-l];clear l;go_wp2
 go_loopg [5,10] ps.length (λV W X wr=>∃(i:Nat)(c:NM)(d:Nat),W=.slice c i d/\X=.a (i:Int)/\i+V=ps.length/\K_ b wr/\Hid (wr.ownsRow b.heap.size 9 1 (.slice c i d) i (((ps.take i).map (nameOf a)).map Value.string)))
 case atStart=>exact⟨0,none,0,rfl,rfl,E5,K_.refl _,Nj _ _ _ _⟩
 case round=>
  obtain⟨i,c,d,rfl,rfl,hi,f,v⟩:=hrel;by_cases b6:(i:Int)<(ps.length:Int)
  .have n:i<ps.length:=E5;let⟨pb,po,Y,b7,Z⟩:=(N.kept (m.trans f)) i n;subst Y;let⟨p,h⟩:=aj (ps.getD i 0);rw[<-h] at Z;have a0:p<a.length:=D p (by rw[h];simp[List.getD,n]);let⟨sb,so,e2,b8,a1⟩:=(M.kept (m.trans f)) p a0;subst e2;let⟨s,j⟩:=aj (a.getD p ByteArray.empty);rw[<-j] at a1;have a2:Hid ((ps.take (i+1)).map (nameOf a)= (ps.take i).map (nameOf a)++[s]):=by
    show _=_;rw[Ms n,ND,j,h];simp[nameOf,List.getD,n]
   have d0:=(f.cell U).trans T;have b9:(p:Int)<(a.length:Int):=E5;clear h j;have x:K_ wr (wr.alloc (.cells #[.string s] 9)):=ah _ _;have E:=Kz (au v.o x);have F:=Kz (f.trans x);have a3:=F.out.size;have a4:Hid (∀q u,([.string s]:List NP)[q]? =some u->(wr.alloc (.cells #[.string s] 9)).cell? ((⟨wr.heap.size,0,none⟩:Addr).add q)=some u):=λq u r=>by rw[Nf];exact X_ wr #[.string s] 9 q u r
   have a5:Hid (∀u∈([.string s]:List NP),u.oneCell'=true):=λu r=>by simp only[Nh,Ni,or_false] at r;subst r;rfl
   clear x;go_wp2_with (at_builtin;refine wpList_append_own _ rfl (.tmp 14) (.tmp 20) 26 rfl b.heap.size 9 O _ 1 16 underlying26 P Q R S rfl E8 (.slice c i d) i (((ps.take i).map (nameOf a)).map Value.string) rfl E.o ⟨wr.heap.size,0,none⟩ 1 1 [.string s] rfl rfl a4.o a5.o F5 E5 a3 ?_;intro v' w6 y G _;have KP:=aK F.out (Mj _) E.o G;have a6:=Kz y;obtain⟨a7,a8,rfl⟩:=aF y;clear y G)
   go_roundg (gk-1)
   case measure=>omega
   case rel=>exact⟨i+1,a7,a8,rfl,F3,E5,KP,Kz (by rw[a2.o,ND];exact a6.o)⟩
  .have a9:i=ps.length:=E5;subst a9;rw[MS] at v;let⟨c0,c1,z,A⟩:=bO v.o;simp only[Nb] at z;rw[<-z.1] at A;have H:=Kz A;let⟨k,t⟩:=aj (ps.map (nameOf a));have I:ps.length=k.length:=by rw[t];simp
   rw[<-t] at H;have B:=Kz t;have b0:Hid (∀s∈k,s.size<=1048576):=λs j=>by
    rw[B.o] at j;obtain⟨p,h,rfl⟩:=MM.1 j;have:=D p h;exact L _ (by rw[uy this];exact Mw this)
   have b1:Hid (Calls prog 48 #[.slice c ps.length d,.func (.func 49) #[] #[]] wr λe w'=>∃da,e=.returned (.slice da k.length k.length)/\cB w' wr.heap.size w'.heap.size da k/\K_ wr w'):=by
    show Calls _ _ _ _ _;rw[I];exact lN wr c d k E5 b0.o H.o
   clear z A t I;go_wp2_with fail
   refine b1.o.mono ?_;rintro e w5 ⟨b2,rfl,J,k5⟩;have b3:=Kz J;go_wp2
   go_ret
   refine⟨b2,by rw[B.o];rfl,?_,(m.trans f).trans k5⟩;have b4:=b3.o;rw[<-B.o];have hz:=(m.trans f).size;exact b4.mono hz (Mj _)
