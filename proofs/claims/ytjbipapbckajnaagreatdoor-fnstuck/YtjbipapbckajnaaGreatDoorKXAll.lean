import Derived.Test.YtjbipapbckajnaaGreatDoorKLOutc
import Derived.Test.YtjbipapbckajnaaGreatDoorKBSeq
set_option maxRecDepth 100000
set_option maxHeartbeats 25600000
namespace Go.Proofs.YtjbipapbckajnaaGreatDoor
open Go.RowKit Go.Proofs.Tryz
structure AgM (w0 wr:Pv) (rb zb ab:Nat) (cost:Int) (sa:Pt) (sn sc:Nat) (r:Qz) (xa:Pt) (xc:Nat) (qv:Pw) (L:List Ps):Prop where
 kw:K_ w0 wr
 box:vS wr rb r xa xc
 res:aB wr zb 40 7
 act:aB wr ab 73 2
 a0:wr.cell? ⟨ab,0,none⟩=some (.a cost)
 a1:wr.cell? ⟨ab,1,none⟩=some (.slice sa sn sc)
 rl:w0.heap.size<=rb
 zl:w0.heap.size<=zb
 al:w0.heap.size<=ab
 rz:rb≠zb
 txt:wr.ownsRow w0.heap.size 9 1 (.slice xa r.texts.length xc) r.texts.length (r.texts.map Value.string)
 ask:wr.ownsRow w0.heap.size 9 1 qv L.length (L.map Value.string)
 sep:∀x,(Value.slice xa r.texts.length xc).ownBlock=some x->qv.ownBlock≠some x
section
variable {w0 wr w' : Pv} {rb zb ab : Nat} {cost : Int} {sa : Pt} {sn sc : Nat} {r r' : Qz} {xa xa' : Pt} {xc xc' : Nat} {qv qv' : Pw} {L : List Ps}
theorem AgM.kept(h:AgM w0 wr rb zb ab cost sa sn sc r xa xc qv L)(k:K_ wr w'):AgM w0 w' rb zb ab cost sa sn sc r xa xc qv L:=
 ⟨h.kw.trans k,h.box.kept k,h.res.kept k,h.act.kept k,(k.cell h.act.lt).trans h.a0,(k.cell h.act.lt).trans h.a1,h.rl,h.zl,h.al,h.rz,ak h.txt k,ak h.ask k,h.sep⟩
theorem AgM.ar(h:AgM w0 wr rb zb ab cost sa sn sc r xa xc qv L):ab≠rb:=aK h.act.type h.box.row.type A8
theorem AgM.put(h:AgM w0 wr rb zb ab cost sa sn sc r xa xc qv L){o:Nat}{v:Pw}(f:o<7)(e:r'.cells xa xc= (r.cells xa xc).set o v)(c:r'.texts=r.texts):AgM w0 (wr.setCell ⟨rb,o,none⟩ v) rb zb ab cost sa sn sc r' xa xc qv L:=by
 have a:But (λb=>b=rb) wr (wr.setCell ⟨rb,o,none⟩ v):=But.set (S:=λb=>b=rb) (But.au (K_.refl _)) (p:=⟨rb,o,none⟩) rfl v;have d:∀{b:Nat},bf wr b 9->¬b=rb:=λi e=>aK i h.box.row.type A8 e
 refine⟨Below.setCell h.kw (p:=⟨rb,o,none⟩) h.rl v,h.box.put f e,a.row h.res (λe=>h.rz e.symm),a.row h.act h.ar,(a.cell h.act.lt h.ar).trans h.a0,(a.cell h.act.lt h.ar).trans h.a1,h.rl,h.zl,h.al,h.rz, ?_,a.owns h.ask (λb e=>d (Yz h.ask e)),by rw[c];exact h.sep⟩;rw[c];exact a.owns h.txt (λb e=>d (Yz h.txt e))
theorem AgM.texts(h:AgM w0 wr rb zb ab cost sa sn sc r xa xc qv L){w1:Pv}{l:List Ps}(m:w1.ownsRow w0.heap.size 9 1 (.slice xa' (r.texts.length+l.length) xc') (r.texts.length+l.length) (r.texts.map Value.string++l.map Value.string))(v:wr.grownBy w1 (Value.slice xa r.texts.length xc).ownBlock)(w:∀g,(Value.slice xa' (r.texts.length+l.length) xc').ownBlock=some g->(Value.slice xa r.texts.length xc).ownBlock=some g\/wr.heap.size<=g):
  AgM w0 (w1.setCell ⟨rb,6,none⟩ (.slice xa' (r.texts.length+l.length) xc')) rb zb ab cost sa sn sc {r with texts:=r.texts++l} xa' xc' qv L:=by
 have a:But (λb=>(Value.slice xa r.texts.length xc).ownBlock=some b) wr w1:=But.aI v (λb e=>e);have c:∀{b:Nat} {u:TypeId},bf wr b u->u≠9->¬(Value.slice xa r.texts.length xc).ownBlock=some b:=λf y e=>aK f (Yz h.txt e) y rfl
 have i:=a.row h.box.row (c h.box.row.type A8);have z:w1.rangeAt rb 0 (r.cells xa xc):=a.range h.box.row (c h.box.row.type A8) h.box.rng;have A:=a.row h.res (c h.res.type A8);have j:=a.row h.act (c h.act.type A8);have B:=(a.cell h.act.lt (c h.act.type A8) (o:=0)).trans h.a0;have C:=(a.cell h.act.lt (c h.act.type A8) (o:=1)).trans h.a1;have n:=a.owns h.ask (λb e k=>h.sep b k e);have D:K_ w0 w1:=a.kept h.kw (λb e=>(h.txt.lt b e).1);have d:But (λb=>b=rb) w1 (w1.setCell ⟨rb,6,none⟩ (.slice xa' (r.texts.length+l.length) xc')):=But.set (S:=λb=>b=rb) (But.au (K_.refl _)) (p:=⟨rb,6,none⟩) rfl _;have q:∀{b:Nat},bf w1 b 9->¬b=rb:=λf e=>aK f i.type A8 e
 have s:(r.texts++l).length=r.texts.length+l.length:=OD;refine⟨Below.setCell D (p:=⟨rb,6,none⟩) h.rl _,⟨i.set _, ?_⟩,d.row A (λe=>h.rz e.symm),d.row j h.ar,(d.cell j.lt h.ar).trans B,(d.cell j.lt h.ar).trans C,h.rl,h.zl,h.al,h.rz, ?_,d.owns n (λb e=>q (Yz n e)),λx E t=>?_⟩
 .have k:Qz.cells {r with texts:=r.texts++l} xa' xc'= (r.cells xa xc).set 6 (.slice xa' (r.texts.length+l.length) xc'):=by
   unfold Qz.cells;simp
  rw[k];exact nG z i.row A7 _
 .show World.ownsRow _ _ _ _ (.slice xa' (r.texts++l).length xc') (r.texts++l).length ((r.texts++l).map Value.string);rw[s,Pi];exact d.owns m (λb e=>q (Yz m e))
 .have F:(Value.slice xa' (r.texts.length+l.length) xc').ownBlock=some x:=by rw[<-s];exact E
  rcases w x F with g|g
  .exact h.sep x g t
  .have:=(h.ask.lt x t).2;omega
theorem AgM.asks(h:AgM w0 wr rb zb ab cost sa sn sc r xa xc qv L){w1:Pv}{l:List Ps}(j:w1.ownsRow w0.heap.size 9 1 qv' (L.length+l.length) (L.map Value.string++l.map Value.string))(k:wr.grownBy w1 qv.ownBlock)(m:∀g,qv'.ownBlock=some g->qv.ownBlock=some g\/wr.heap.size<=g):
  AgM w0 w1 rb zb ab cost sa sn sc r xa xc qv' (L++l):=by
 have a:But (λb=>qv.ownBlock=some b) wr w1:=But.aI k (λb e=>e);have c:∀{b:Nat} {u:TypeId},bf wr b u->u≠9->¬qv.ownBlock=some b:=λn p e=>aK n (Yz h.ask e) p rfl
 have d:=c h.act.type A8;have f:=c h.box.row.type A8;refine⟨a.kept h.kw (λb e=>(h.ask.lt b e).1),⟨a.row h.box.row f,a.range h.box.row f h.box.rng⟩,a.row h.res (c h.res.type A8),a.row h.act d,(a.cell h.act.lt d).trans h.a0,(a.cell h.act.lt d).trans h.a1,h.rl,h.zl,h.al,h.rz,a.owns h.txt (λb e q=>h.sep b e q), ?_,λx i s=>?_⟩
 .rw[OD,Pi];exact j
 .rcases m x s with g|g
  .exact h.sep x i g
  .have:=(h.txt.lt x i).2;omega
end
def Ay(W:bR)(σ:Env)(name:Ps)(w':Pv)(e:Ending):Prop:=
 ∃(k:Nat) (xa:Pt) (xc:Nat) (qa:Pt) (qc:Nat),e= .returned (.tuple #[.agg ((aJ W σ name k).1.cells xa xc).toArray,.slice qa (aJ W σ name k).2.length qc])/\(∀j,j<k->aZ W σ (aJ W σ name j).1)/\¬aZ W σ (aJ W σ name k).1/\(fA w' 9 xa (aJ W σ name k).1.texts/\(xa=none->xc=0)/\fA w' 9 qa (aJ W σ name k).2)/\Strs w' qa (aJ W σ name k).2
variable {σ : Env} {Kj : List Qq}
theorem mh(a:aX (Q_ Kj))(b:dw Kj σ){n:Ps}(c:(Q_ Kj n).isSome=true):∀{k:Nat},(∀j,j<k->aZ (Q_ Kj) σ (aJ (Q_ Kj) σ n j).1)->(aJ (Q_ Kj) σ n k).1.Good Kj
 | 0,_=>gD a c
 | k+1,h=>dm a b (mh a b c (λj d=>h j A7)) (h k A7)
theorem Dh(d:aX (Q_ Kj)){r:Qz}(k:dw Kj σ)(l:r.Good Kj)(f:aZ (Q_ Kj) σ r):(Y_ (Q_ Kj) σ r).2.length<=5:=by
 obtain⟨A,b,m,n⟩:=(dm d k l f).act;rw[bP] at b;have p:=(ja (d _ _ b).1 m n).1;by_cases a:(Y_ (Q_ Kj) σ r).2=[]
 .rw[a];simp
 .have e:(Y_ (Q_ Kj) σ r).2= (stepOf A (Y_ (Q_ Kj) σ r).1.at').asks:=by
   unfold Y_ at a⊢;rw[b] at a⊢;simp only at a⊢;have ar:∀q:Qz,(bK A q).2= (stepOf A (bK A q).1.at').asks:=λq=>by
    unfold bK;simp only
    split <;> rfl
   by_cases c:r.Zj=0
   .rw[Pe c];exact ar _
   .rw[Pf c] at a⊢;rcases f.2 with e|⟨v,s,h,t⟩
    .exact Pg e c
    .rw[b] at h;cases h;rw[t] at a⊢;simp only at a⊢;by_cases i:r.Zj=20
     .rw[Pe i] at a;exact Pg rfl a
     .rw[Pf i] at a⊢;by_cases j:(bQ (stepOf A r.at') s).over=true
      .rw[Pe j] at a;exact Pg rfl a
      .rw[Pf j];exact ar _
  rw[e];exact p
theorem sw(a:aX (Q_ Kj))(b:dw Kj σ){n:Ps}(c:(Q_ Kj n).isSome=true):∀{k:Nat},(∀j,j<k->aZ (Q_ Kj) σ (aJ (Q_ Kj) σ n j).1)->(aJ (Q_ Kj) σ n k).2.length<=5*k
 | 0,_=>NQ _
 | k+1,h=>by
  have e:=sw a b c (k:=k) (λj d=>h j A7);have f:=Dh a b (mh a b c (λj d=>h j A7)) (h k A7);show ((aJ (Q_ Kj) σ n k).2++ (Y_ (Q_ Kj) σ (aJ (Q_ Kj) σ n k).1).2).length<=5*(k+1);rw[OD];omega
theorem Cf(b:aX (Q_ Kj))(c:dw Kj σ){n:Ps}(a:(Q_ Kj n).isSome=true){k:Nat}(h:∀j,j<k->aZ (Q_ Kj) σ (aJ (Q_ Kj) σ n j).1):k<=21:=by
 cases k with
 | zero=>omega
 | succ k=>
  have e:=fO a (k:=k) (λj d=>h j A7) (h k A7).1;have f:=(mh b c a (k:=k) (λj d=>h j A7)).hi;omega
theorem Dc{g:Nat}:∀(vs:List Pw) (o:Nat) {w u:Pv},But (λb=>b=g) w u->But (λb=>b=g) w (u.setCells g o vs)
 | [],_,_,_,h=>h
 | v :: r,o,_,_,h=>by rw[World.setCells];exact Dc r (o+1) (h.set (p:=⟨g,o,none⟩) rfl v)
theorem AgM.ends{W:bR}{c:Ps}{w0 wr:Pv}{rb zb ab:Nat}{cost:Int}{sa:Pt}{sn sc:Nat}{r:Qz}{xa:Pt}{xc:Nat}{qa:Pt}{f qc:Nat}{L:List Ps}{k:Nat}{e:Ending}(h:AgM w0 wr rb zb ab cost sa sn sc r xa xc (.slice qa f qc) L)(a:aJ W σ c k= (r,L))(p:∀j,j<k->aZ W σ (aJ W σ c j).1)(q:¬aZ W σ r)
 (s:e= .returned (.tuple #[.agg (r.cells xa xc).toArray,.slice qa f qc])):Ay W σ c (wr.setCells zb 0 (r.cells xa xc)) e/\K_ w0 (wr.setCells zb 0 (r.cells xa xc)):=by
 have d:But (λb=>b=zb) wr (wr.setCells zb 0 (r.cells xa xc)):=Dc _ _ (But.au (K_.refl _));have i:∀{b:Nat},bf wr b 9->¬b=zb:=λt e=>aK t h.res.type A8 e
 have l:=qE (d.owns h.txt (λb e=>i (Yz h.txt e)));have m:=d.owns h.ask (λb e=>i (Yz h.ask e));obtain⟨x,y,n,v⟩:=bv m;simp only[OG] at n;obtain⟨rfl,rfl,_⟩:=n;have w:=qE m;refine⟨⟨k,xa,xc,qa,qc, ?_,p, ?_, ?_, ?_⟩,d.kept h.kw (λb e=>by rw[e];exact h.zl)⟩
 .rw[a];exact s
 .rw[a];exact q
 .rw[a];exact⟨l.1,l.2.1,w.1⟩
 .rw[a];exact v
theorem AgM.start{w wc:Pv}{zb ab:Nat}{cost:Int}{sa:Pt}{sn sc:Nat}(a:Ps)(d:K_ w wc)(h:aB wc zb 40 7)(f:aB wc ab 73 2)(j:wc.cell? ⟨ab,0,none⟩=some (.a cost))(k:wc.cell? ⟨ab,1,none⟩=some (.slice sa sn sc))(l:w.heap.size<=zb)(m:w.heap.size<=ab):
  AgM w ((wc.alloc (.cells #[.string a,.bool false,.bool false,.string ⟨#[]⟩,.a 0,.a 0,J3] 40)).alloc (.cells #[] 9)) wc.heap.size zb ab cost sa sn sc (Qz.fresh a) none 0 (.b (wc.heap.size+1) 0 0) []:=by
 have b:K_ wc (wc.alloc (.cells #[.string a,.bool false,.bool false,.string ⟨#[]⟩,.a 0,.a 0,J3] 40)):=ah _ _;have c:K_ (wc.alloc (.cells #[.string a,.bool false,.bool false,.string ⟨#[]⟩,.a 0,.a 0,J3] 40)) ((wc.alloc (.cells #[.string a,.bool false,.bool false,.string ⟨#[]⟩,.a 0,.a 0,J3] 40)).alloc (.cells #[] 9)):=ah _ _;have n:vS (wc.alloc (.cells #[.string a,.bool false,.bool false,.string ⟨#[]⟩,.a 0,.a 0,J3] 40)) wc.heap.size (Qz.fresh a) none 0:=⟨aB.made wc _ _,Xz wc _ _⟩;have i:=Ov (base:=w.heap.size) (e:=9) (size:=1) (wc.alloc (.cells #[.string a,.bool false,.bool false,.string ⟨#[]⟩,.a 0,.a 0,J3] 40)) #[] 0 (NT d.size b.size) (NS _) rfl;rw[OC] at i;exact⟨d.trans (b.trans c),n.kept c,h.kept (b.trans c),f.kept (b.trans c),((b.trans c).cell f.lt).trans j,((b.trans c).cell f.lt).trans k,d.size,l,m,by have:=h.lt;omega,OO _ _ _ _,i,λx p=>by cases p⟩
theorem IV(w:Pv)(kb:Nat)(a:Pt)(cap:Nat)(Kj:List Qq)(d:Pt)(dc:Nat)(l:List Qz)(P:Ps)(j5:Kj.length<=1048576)(s2:l.length<=1048576)(h1:uy Kj)(j6:aX (Q_ Kj))(n5:∀y∈Kj,y.Fits)(j7:dw Kj (Qj l))(h3:(Q_ Kj P).isSome=true)
  (n:jb w kb a Kj.length cap d l.length dc) (hN:bN w a Kj) (hS:fw w d l):
  Calls prog 85 #[.c kb,.string P] w λe w'=>Ay (Q_ Kj) (Qj l) P w' e/\K_ w w':=by
 obtain⟨z1,hA⟩:=Om.1 h3;obtain⟨c4,hk,j8,n6,rfl⟩:=gY hA;obtain⟨y,hy⟩:=ai (Kj.getD c4 Qq.zero);rw[<-hy] at hA j8;obtain⟨WB,h4⟩:=ai (w.alloc (.cells #[.string ⟨#[]⟩,.bool false,.bool false,.string ⟨#[]⟩,.a 0,.a 0,J3] 40));have kB:K_ w WB:=by rw[h4];exact ah _ _
 obtain⟨E,h5⟩:=ai w.heap.size;have n7:aB WB E 40 7:=by rw[h4,h5];exact aB.made w _ _
 have n8:Hid (w.heap.size<=E):=Ot h5.symm;obtain⟨nb,nq,f,c5,h6,D,na,nc,rfl,j9⟩:=hN c4 hk;rw[<-hy] at D j9;have k0:nb<WB.heap.size:=NR h6 kB.size;have n9:=(kB.cell h6).trans (D 1 _ rfl);have o0:=(kB.cell h6).trans (D 2 _ rfl);subst c5;have s3:=Kz n;have k1:=Kz (n.kept kB);have k2:=Kz (hN.kept kB);have⟨s4,s5,k3,o1,o2⟩:=jH hN hS j9 kB n7;have⟨HY,k4⟩:=aH hy hA;have o3:=k1.o.web;have bz:=k1.o.row.lt;have e8:y∈Kj:=by rw[hy];simp[List.getD,hk]
 clear D j9 hy hA kB n7 n hN hS h6;go_enter func85,ntmps85
 go_upto_region 1 with fail
 rw[<-h4,<-h5];clear h4 h5;go_cut [6] from 14 to 27 (λs6 wx=>∃X,s6= .c X/\K_ WB wx/\WB.heap.size<=X/\aB wx X 73 2/\J4 wx X 0 (.a y.cost)/\J4 wx X 1 (.slice na y.steps.length nc))
 case first=>
  have c6:Hid (∀w',K_ WB w'->J4 w' kb 0 (.slice (some ⟨nb,nq,none⟩) Kj.length cap)/\J4 w' nb (nq+c4*3+1) (.a y.cost)/\J4 w' nb (nq+c4*3+2) (.slice na y.steps.length nc)):=λw' K=>⟨(K.cell bz).trans o3,(K.cell k0).trans n9,(K.cell k0).trans o0⟩
  have z2:(c4:Int)<(Kj.length:Int):=A7;refine bn 15 c6.o λwd KD Y=>?_
  refine ax 0 Y ?_;refine ax 4 Y ?_;refine ae 8 Y ?_;refine ae 9 Y ?_;refine iy 10 14 (λK n=>?_) (λK n=>?_)
  .rw[Pe D8];go_simp
   go_at_call 37
   refine (iA wd (some ⟨nb,nq,none⟩) cap Kj P j5 (k2.o.kept KD)).mono ?_;rintro e w2 ⟨⟨q,rfl,hq⟩,h7⟩;have K2:=KD.trans h7;obtain rfl:q= (c4:Int):=by
    rcases hq with⟨k',_,e',_,Z,h2⟩|⟨_,Z⟩
    .rw[e',nP (by rw[<-HY.o];exact j8) n6 Z h2]
    .rw[k4.o] at Z;cases Z
   clear hq;dsimp only;refine af n (λ_=>c6.o _ K2) ?_;clear n K;clear Y;have Y:=c6.o _ K2;refine ae 11 Y ?_;refine ae 12 Y ?_;refine ae 13 Y ?_;refine aj 14 (λK n=>?_);go_simp
   have K3:K_ w2 (w2.alloc (.cells #[.a 0,J3] 73)):=ah _ _;refine af n (λ_=>c6.o _ (K2.trans K3)) ?_;clear n K;have a8:aB (w2.alloc (.cells #[.a 0,J3] 73)) w2.heap.size 73 2:=aB.made w2 _ _;have KE:=K2.trans K3;generalize s7:w2.alloc (.cells #[.a 0,J3] 73)=wE at a8 KE⊢;clear s7 K3;obtain⟨⟨_,v0⟩,s8⟩:=a8.row.at (i:=0) A7;obtain⟨⟨_,v1⟩,s9⟩:=a8.row.at (i:=1) A7;have vz:=a8.lt;refine aj 15 (λK n=>?_);go_simp
   refine af n (λh=>Pg rfl h) ?_;clear n K;refine aG ?_;go_wp2
   go_meet
   exact⟨w2.heap.size,rfl,Below.setCell (Below.setCell KE (p:=⟨w2.heap.size,0,none⟩) K2.size _) (p:=⟨w2.heap.size,1,none⟩) K2.size _,K2.size,(a8.set _).set _,(Xx A7 _).trans (bu a8.row A7 _),bu (a8.set _).row A7 _⟩
  .rw[Pe D8];go_simp
   have K3:K_ wd (wd.alloc (.cells #[.a 0,J3] 73)):=ah _ _;have k5:=KD.trans K3;refine af n (λ_=>c6.o _ k5) ?_;clear n K;refine aF 10 (λK n=>?_);go_simp
   go_at_call 37
   refine (iA (wd.alloc (.cells #[.a 0,J3] 73)) (some ⟨nb,nq,none⟩) cap Kj P j5 (k2.o.kept k5)).mono ?_;rintro e w2 ⟨⟨q,rfl,hq⟩,h7⟩;have K2:=k5.trans h7;obtain rfl:q= (c4:Int):=by
    rcases hq with⟨k',_,e',_,Z,h2⟩|⟨_,Z⟩
    .rw[e',nP (by rw[<-HY.o];exact j8) n6 Z h2]
    .rw[k4.o] at Z;cases Z
   clear hq;dsimp only;refine af n (λ_=>c6.o _ K2) ?_;clear n K;clear Y;have Y:=c6.o _ K2;refine ae 11 Y ?_;refine ae 12 Y ?_;refine ae 13 Y ?_;have a8:aB w2 wd.heap.size 73 2:=(aB.made wd #[.a 0,J3] 73).kept h7;obtain⟨⟨_,v0⟩,s8⟩:=a8.row.at (i:=0) A7;obtain⟨⟨_,v1⟩,s9⟩:=a8.row.at (i:=1) A7;have vz:=a8.lt;refine aj 15 (λK n=>?_);go_simp
   refine af n (λh=>Pg rfl h) ?_;clear n K;refine aG ?_;go_wp2
   go_meet
   exact⟨wd.heap.size,rfl,Below.setCell (Below.setCell K2 (p:=⟨wd.heap.size,0,none⟩) KD.size _) (p:=⟨wd.heap.size,1,none⟩) KD.size _,KD.size,(a8.set _).set _,(Xx A7 _).trans (bu a8.row A7 _),bu (a8.set _).row A7 _⟩
 case rest=>
  obtain⟨X,rfl,Kx,o4,o5,c7,c8⟩:=hcut;have f3:=Kz (AgM.start P (o1.o.trans Kx) (o2.o.kept Kx) o5 c7 c8 n8.o (NT o1.o.size o4));clear o4 o5 c7 c8 n9 o0 o3 bz k0 k1 k2 o2 Kx n8;go_upto_region 3 with fail
  obtain⟨c,k7⟩:=ai wc.heap.size;have o6:(wc.alloc (.cells #[.string P,.bool false,.bool false,.string ⟨#[]⟩,.a 0,.a 0,J3] 40)).heap.size=c+1:=by rw[k7];simp
  rw[<-k7] at f3⊢;have k8:=Kz o6;clear o6;generalize t8:wc.alloc (.cells #[.string P,.bool false,.bool false,.string ⟨#[]⟩,.a 0,.a 0,J3] 40)=w1 at f3 k8⊢;clear t8 k7;go_wp2_with fail
  rw[k8.o];clear k8;generalize t9:w1.alloc (.cells #[] 9)=w2 at f3⊢;clear t9;go_loopg [8] 22 (λgg v8 wr=>∃(J:Nat) (T:Pt) (U:Nat) (qa:Pt) (qc:Nat),v8= .slice qa (aJ (Q_ Kj) (Qj l) P J).2.length qc/\J+gg=22/\Hid (∀a4,a4<J->aZ (Q_ Kj) (Qj l) (aJ (Q_ Kj) (Qj l) P a4).1)/\Hid (AgM w wr c E X y.cost na y.steps.length nc (aJ (Q_ Kj) (Qj l) P J).1 T U (.slice qa (aJ (Q_ Kj) (Qj l) P J).2.length qc) (aJ (Q_ Kj) (Qj l) P J).2))
  case atStart=>exact⟨0,none,0,some ⟨c+1,0,none⟩,0,rfl,rfl,Kz (λa4 hi=>aT hi),f3⟩
  case round=>
   clear f3;obtain⟨J,T,U,qa,qc,rfl,z3,d0,Q⟩:=hrel;have c0:=Kz (mh j6 j7 h3 d0.o);have v9:=sw j6 j7 h3 d0.o;have k9:=Kz (lT (W:=Q_ Kj) (σ:=Qj l) (n:=P) J);obtain⟨r,hr⟩:=ai ((aJ (Q_ Kj) (Qj l) P J).1);obtain⟨L,hL⟩:=ai ((aJ (Q_ Kj) (Qj l) P J).2);rw[<-hr,<-hL] at Q;rw[<-hr] at c0 k9;rw[<-hL] at v9⊢;have d1:Hid (aJ (Q_ Kj) (Qj l) P J= (r,L)):=by show _=_;rw[hr,hL]
   have b7:Hid (Q_ Kj r.name=some ⟨y.cost,y.steps⟩):=by show _=_;rw[k9.o];exact k4.o
   have h8:Hid (aJ (Q_ Kj) (Qj l) P (J+1)= ((Y_ (Q_ Kj) (Qj l) r).1,L++ (Y_ (Q_ Kj) (Qj l) r).2)):=by show _=_;unfold aJ;rw[d1.o]
   clear hr hL k9;obtain⟨t,j,v,x,k,z,A⟩:=Q.o.box.all;have i:=Q.o.box.row.lt;by_cases h9:r.over=true
   .have c1:=Kz h9;clear t j v x k z A i;have j:wr.cell? ⟨c,1,none⟩=some (.bool true):=by have h:=Q.o.box.all.2.1;rw[c1.o] at h;exact h
    have i:=Q.o.box.row.lt;clear h9;go_upto_region 31 with fail
    clear j i;obtain⟨f,D⟩:=ai (Qz.cells (r) T U);have M:f.length=7:=by rw[D];rfl
    have d2:Hid (f.toArray.all (·.oneCell')=true):=by show _=_;rw[D];exact all_oneCell_toArray (by simp[Qz.cells,Value.oneCell'])
    have d4:Hid (wr.rangeAt c 0 f):=by show World.rangeAt _ _ _ _;rw[D];exact Q.o.box.rng
    have i:=Q.o.box.row.lt;have d5:Hid ((prog.info? 40).map (·.size)=some f.toArray.size):=by show _=_;rw[Tryz.jM];simp[M]
    have a9:Hid ((prog.info? 40).map (·.size)=some f.length):=by show _=_;rw[Tryz.jM,M]
    have b0:Hid (wr.there E 0 f.toArray.size):=by show World.there _ _ _ _;simpa[M] using Q.o.res.row.there (o:=0) (m:=7) (NQ _)
    have⟨d6,l0⟩:=aH D M;clear D M;go_wp2_with (first | (refine wpList_load_mid rfl 40 _ rfl c 0 rfl f _ d4.o underlying40 rfl a9.o ?_) | (refine wpList_store_mid rfl 40 _ _ rfl E 0 f.toArray rfl rfl b0.o d5.o d2.o ?_;rw[List.toList_toArray]))
    have hR:=NU wr E 0 f (by have:=b0.o;simpa using this);refine bI f _ _ results85 rfl hR underlying40 rfl a9.o rfl rfl ?_;have d7:=d6.o;subst d7;exact Q.o.ends d1.o d0.o (λh=>by have Z:=h.1;rw[c1.o] at Z;cases Z) rfl
   have c1:Hid (r.over=false):=by cases h:r.over;rfl;exact Pg h h9
   rw[c1.o] at j;clear h9;have lo:=c0.o.lo;have w0:=c0.o.hi;have tl:=c0.o.tl;obtain⟨c7,c8⟩:0<=r.at'/\r.at' < y.steps.length:=by
    obtain⟨w4,o7,Z,h2⟩:=c0.o.act;rw[b7.o] at o7;cases o7;exact⟨Z,h2⟩
   have z4:J<=20:=by have h:=fO h3 d0.o (by rw[d1.o];exact c1.o);rw[d1.o] at h;dsimp only at h;omega
   go_upto_if 36 with fail
   go_cut [9,10,11,12] from 36 to 87 (λ_ _ _ _ wx=>∃(B:Qz) (b4:Pt) (b8:Nat),Hid (AgM w wx c E X y.cost na y.steps.length nc B b4 b8 (.slice qa L.length qc) L)/\Hid (Y_ (Q_ Kj) (Qj l) r=bK ⟨y.cost,y.steps⟩ B)/\0<=B.at'/\B.at' < y.steps.length/\0<=B.Zj/\B.Zj<20/\B.texts.length<=200/\Hid (∀d8∈B.texts,d8.size<=200)/\Hid (aZ (Q_ Kj) (Qj l) r))
   case first=>
    by_cases hv:r.Zj=0
    .have w5:¬(0:Int)<r.Zj:=A7;have HV:=Kz hv;clear hv;go_wp2
     go_meet
     exact⟨r,T,U,Q,Kz (by unfold Y_;rw[b7.o];simp[HV.o]),c7,c8,lo,A7,A7,Kz c0.o.ts,Kz ⟨c1.o,.inl HV.o⟩⟩
    .have z5:(0:Int)<r.Zj:=A7;obtain⟨ix,c2⟩:∃ix:Nat,r.at'= (ix:Int):=⟨r.at'.toNat,A7⟩;have f4:ix<y.steps.length:=A7;have x0:(ix:Int)<(y.steps.length:Int):=A7;obtain⟨tb,tq,x1,rfl,l1,R,H,I,N,O,rfl,d9,f5,_⟩:=(Steps.kept k3.o Q.o.kw) ix f4;obtain⟨s,hs⟩:=ai (y.steps.getD ix Xj.zero);rw[<-hs] at R d9 f5;have t0:=R 0 _ rfl;have t1:=R 1 _ rfl;have t2:=R 2 _ rfl;have t3:=R 3 _ rfl;have t4:=R 4 _ rfl;have t5:=R 5 _ rfl;have t6:=R 6 _ rfl;have t7:=R 7 _ rfl;rw[OJ] at t0;have e9:s∈y.steps:=by rw[hs];simp[List.getD,f4]
     have o8:=(h1 y e8 s e9).1;have o9:=(h1 y e8 s e9).2;have i0:=n5 y e8;have b5:Hid (stepOf ⟨y.cost,y.steps⟩ r.at'=s):=by show _=_;unfold stepOf;rw[c2,hs];rfl
     have p1:=Q.o.a1;have pz:=Q.o.act.lt;rw[c2] at k;have f6:=Kz d9;clear R d9 f5 hs;have z6:=Kz c2;clear c2;go_upto_region 7 with fail
     have kS:K_ wr (wr.alloc (.cells #[.slice H s.asks.length I,.a s.on,.slice N s.cases.length O,.a s.els,.a s.fall,.bool s.fin,.bool s.bad,.string s.give] 176)):=ah _ _;have f0:=Kz (Q.o.kept kS);have l2:=Kz (f6.o.kept kS);have x2:(wr.alloc (.cells #[.slice H s.asks.length I,.a s.on,.slice N s.cases.length O,.a s.els,.a s.fall,.bool s.fin,.bool s.bad,.string s.give] 176)).rangeAt wr.heap.size 0 #[.slice H s.asks.length I,.a s.on,.slice N s.cases.length O,.a s.els,.a s.fall,.bool s.fin,.bool s.bad,.string s.give].toList:=Xz wr _ _;have v0:=Xz wr #[.slice H s.asks.length I,.a s.on,.slice N s.cases.length O,.a s.els,.a s.fall,.bool s.fin,.bool s.bad,.string s.give] 176 0 _ rfl;have v1:=Xz wr #[.slice H s.asks.length I,.a s.on,.slice N s.cases.length O,.a s.els,.a s.fall,.bool s.fin,.bool s.bad,.string s.give] 176 1 _ rfl;have v2:=Xz wr #[.slice H s.asks.length I,.a s.on,.slice N s.cases.length O,.a s.els,.a s.fall,.bool s.fin,.bool s.bad,.string s.give] 176 2 _ rfl;have v3:=Xz wr #[.slice H s.asks.length I,.a s.on,.slice N s.cases.length O,.a s.els,.a s.fall,.bool s.fin,.bool s.bad,.string s.give] 176 3 _ rfl;have v4:=Xz wr #[.slice H s.asks.length I,.a s.on,.slice N s.cases.length O,.a s.els,.a s.fall,.bool s.fin,.bool s.bad,.string s.give] 176 4 _ rfl;have v5:=Xz wr #[.slice H s.asks.length I,.a s.on,.slice N s.cases.length O,.a s.els,.a s.fall,.bool s.fin,.bool s.bad,.string s.give] 176 5 _ rfl;have v6:=Xz wr #[.slice H s.asks.length I,.a s.on,.slice N s.cases.length O,.a s.els,.a s.fall,.bool s.fin,.bool s.bad,.string s.give] 176 6 _ rfl;have v7:=Xz wr #[.slice H s.asks.length I,.a s.on,.slice N s.cases.length O,.a s.els,.a s.fall,.bool s.fin,.bool s.bad,.string s.give] 176 7 _ rfl;simp only[Ow] at v0 v1 v2 v3 v4 v5 v6 v7;have vz:wr.heap.size<(wr.alloc (.cells #[.slice H s.asks.length I,.a s.on,.slice N s.cases.length O,.a s.els,.a s.fall,.bool s.fin,.bool s.bad,.string s.give] 176)).heap.size:=A9;obtain⟨sb,e0⟩:=ai wr.heap.size;rw[<-e0] at v0 v1 v2 v3 v4 v5 v6 v7 vz⊢;generalize C:wr.alloc (.cells #[.slice H s.asks.length I,.a s.on,.slice N s.cases.length O,.a s.els,.a s.fall,.bool s.fin,.bool s.bad,.string s.give] 176)=w1 at f0 l2 v0 v1 v2 v3 v4 v5 v6 v7 vz⊢;clear C x2 kS e0 t0 t1 t2 t3 t4 t5 t6 t7 p1 pz Q f6 j l1;clear t v x k z A i;go_wp2_with fail
     refine (Dp w1 kb (some ⟨nb,nq,none⟩) cap Kj d dc l s H N I O j5 s2 o8 o9 (s3.o.kept f0.o.kw) (s4.o.kept f0.o.kw) (s5.o.kept f0.o.kw) l2.o).mono ?_;rintro e w3 ⟨⟨d3,z7,p0,ok,rfl,l3,l4⟩,l5⟩;have G:=Kz (f0.o.kept l5);clear v0 v1 v2 v3 v4 v5 v6 v7 vz f0 l2;have p2:r.Zj≠0:=hv;have f7:=Kz p2;clear p2;cases ok
     .have x3:=Kz (l4 rfl);clear l3 l4 l5;go_upto_region 9 with fail
      obtain⟨f,D⟩:=ai (Qz.cells (r) T U);have M:f.length=7:=by rw[D];rfl
      have d2:Hid (f.toArray.all (·.oneCell')=true):=by show _=_;rw[D];exact all_oneCell_toArray (by simp[Qz.cells,Value.oneCell'])
      have d4:Hid (w3.rangeAt c 0 f):=by show World.rangeAt _ _ _ _;rw[D];exact G.o.box.rng
      have i:=G.o.box.row.lt;have d5:Hid ((prog.info? 40).map (·.size)=some f.toArray.size):=by show _=_;rw[Tryz.jM];simp[M]
      have a9:Hid ((prog.info? 40).map (·.size)=some f.length):=by show _=_;rw[Tryz.jM,M]
      have b0:Hid (w3.there E 0 f.toArray.size):=by show World.there _ _ _ _;simpa[M] using G.o.res.row.there (o:=0) (m:=7) (NQ _)
      have⟨d6,l0⟩:=aH D M;clear D M;go_wp2_with (first | (refine wpList_load_mid rfl 40 _ rfl c 0 rfl f _ d4.o underlying40 rfl a9.o ?_) | (refine wpList_store_mid rfl 40 _ _ rfl E 0 f.toArray rfl rfl b0.o d5.o d2.o ?_;rw[List.toList_toArray]))
      have hR:=NU w3 E 0 f (by have:=b0.o;simpa using this);refine bI f _ _ results85 rfl hR underlying40 rfl a9.o rfl rfl ?_;have d7:=d6.o;subst d7;exact G.o.ends d1.o d0.o (λh=>by rcases h.2 with g | ⟨w4,a2,g1,g2⟩;exact f7.o g;rw[b7.o] at g1;cases g1;rw[b5.o,x3.o] at g2;cases g2) rfl
     .obtain⟨a2,p3,rfl,p4⟩:=l3 rfl;have⟨f8,l6⟩:=aH p3 p4;clear l3 l4 p3 p4 l5;have i1:Hid (aZ (Q_ Kj) (Qj l) r):=⟨c1.o,.inr ⟨_,a2,b7.o,by rw[b5.o];exact f8.o⟩⟩;have f9:Hid (∀a4,a4<J+1->aZ (Q_ Kj) (Qj l) (aJ (Q_ Kj) (Qj l) P a4).1):=λa4 hi=>by
       rcases Nat.lt_or_ge a4 J with g|g
       .exact d0.o a4 g
       .obtain rfl:a4=J:=A7;rw[d1.o];exact i1.o
      by_cases f1:r.Zj=20
      .have x4:(r.Zj == 20)=true:=by simp[f1]
       have g0:=Kz f1;clear f1;obtain⟨t,j,v,x,k,z,A⟩:=G.o.box.all;have i:=G.o.box.row.lt;go_upto_region 11 with fail
       clear t j v x k z A i;obtain⟨t,j,v,x,k,z,A⟩:=G.o.box.all;have i:=G.o.box.row.lt;obtain⟨_,g1⟩:=G.o.box.row.row.at (i:=1) A7;go_upto_region 12 with fail
       have b1:Hid (AgM w (w3.setCell ⟨c,1,none⟩ (.bool true)) c E X y.cost (some ⟨tb,tq,none⟩) y.steps.length nc ({r with over:=true}) T U (.slice qa L.length qc) L):=G.o.put A7 rfl rfl;generalize C:w3.setCell ⟨c,1,none⟩ (.bool true)=p5 at b1  ⊢;clear C;clear t j v x k z A i;clear g1;obtain⟨t,j,v,x,k,z,A⟩:=b1.o.box.all;have i:=b1.o.box.row.lt;obtain⟨_,g2⟩:=b1.o.box.row.row.at (i:=2) A7;go_upto_region 13 with fail
       have b2:Hid (AgM w (p5.setCell ⟨c,2,none⟩ (.bool true)) c E X y.cost (some ⟨tb,tq,none⟩) y.steps.length nc ({r with over:=true,fail:=true}) T U (.slice qa L.length qc) L):=b1.o.put A7 rfl rfl;generalize C:p5.setCell ⟨c,2,none⟩ (.bool true)=F at b2  ⊢;clear C;clear t j v x k z A i;clear g2;obtain⟨t,j,v,x,k,z,A⟩:=b2.o.box.all;have i:=b2.o.box.row.lt;obtain⟨_,i2⟩:=b2.o.box.row.row.at (i:=3) A7;go_upto_region 14 with fail
       have S:Hid (AgM w (F.setCell ⟨c,3,none⟩ (.string ⟨#[115,112,101,110,116]⟩)) c E X y.cost (some ⟨tb,tq,none⟩) y.steps.length nc ({r with over:=true,fail:=true,text:=gX}) T U (.slice qa L.length qc) L):=b2.o.put A7 rfl rfl;generalize C:F.setCell ⟨c,3,none⟩ (.string ⟨#[115,112,101,110,116]⟩)=w6 at S  ⊢;clear C;clear t j v x k z A i;clear i2;have b9:Hid (Y_ (Q_ Kj) (Qj l) r= ({r with over:=true,fail:=true,text:=gX},[])):=by show _=_;unfold Y_;rw[b7.o];simp only;rw[Pf f7.o,b5.o,f8.o];simp[g0.o]
       obtain⟨f,D⟩:=ai (Qz.cells ({r with over:=true,fail:=true,text:=gX}) T U);have M:f.length=7:=by rw[D];rfl
       have d2:Hid (f.toArray.all (·.oneCell')=true):=by show _=_;rw[D];exact all_oneCell_toArray (by simp[Qz.cells,Value.oneCell'])
       have d4:Hid (w6.rangeAt c 0 f):=by show World.rangeAt _ _ _ _;rw[D];exact S.o.box.rng
       have i:=S.o.box.row.lt;have d5:Hid ((prog.info? 40).map (·.size)=some f.toArray.size):=by show _=_;rw[Tryz.jM];simp[M]
       have a9:Hid ((prog.info? 40).map (·.size)=some f.length):=by show _=_;rw[Tryz.jM,M]
       have b0:Hid (w6.there E 0 f.toArray.size):=by show World.there _ _ _ _;simpa[M] using S.o.res.row.there (o:=0) (m:=7) (NQ _)
       have⟨d6,l0⟩:=aH D M;clear D M;go_wp2_with (first | (refine wpList_load_mid rfl 40 _ rfl c 0 rfl f _ d4.o underlying40 rfl a9.o ?_) | (refine wpList_store_mid rfl 40 _ _ rfl E 0 f.toArray rfl rfl b0.o d5.o d2.o ?_;rw[List.toList_toArray]))
       have hR:=NU w6 E 0 f (by have:=b0.o;simpa using this);refine bI f _ _ results85 rfl hR underlying40 rfl a9.o rfl rfl ?_;have d7:=d6.o;subst d7;exact S.o.ends (h8.o.trans (by rw[b9.o,List.append_nil])) f9.o (λh=>by have Z:=h.1;cases Z) rfl
      .have x4:(r.Zj == 20)=false:=by simpa using f1
       have g0:=Kz f1;clear f1;have l7:=(j6 _ _ b7.o).1;obtain⟨p6,l8⟩:=ja l7 c7 c8;rw[b5.o] at p6 l8;have p7:∀l9∈s.asks,l9.size<=20:=λl9 hn=>(l8 l9 hn).2.1
       obtain⟨m0,p8⟩:=rZ j7 p7 f8.o;have z8:a2.length<=5:=by rw[m0.1];exact p6
       have HW:Hid (mK y.cost y.steps r.at' a2 (bQ s a2)):= .inr ⟨⟨l7,⟨c7,c8⟩,c0.o.stp _ b7.o c1.o f7.o⟩,by have e:kX y.steps r.at'=s:=b5.o;rw[e];exact jc m0⟩;have p9:=Kz p8;clear p8 l7 l8 p7 m0;have q0:a2.length<=maxLen:=D5;have q1:∀m1∈a2,m1.text.size<=maxLen:=λm1 hc=>by have:=p9.o m1 hc;unfold maxLen;omega
       have x5:=G.o.a0;have p1:=G.o.a1;have x6:=G.o.act.lt;obtain⟨t,j,v,x,k,z,A⟩:=G.o.box.all;have i:=G.o.box.row.lt;go_wp2_with fail
       refine (BA _ y.cost r.at' (some ⟨tb,tq,none⟩) d3 nc p0 y.steps a2 i0.steps i0.each (Steps.kept k3.o G.o.kw) q0 q1 l6.o).mono ?_;rintro e F ⟨⟨q2,rfl,hG⟩,i3⟩;have q3:q2=bQ s a2:=hG.unique HW.o;obtain⟨gc,go,gt,V⟩:=q2;have i4:=Kz q3;have q4:(b_.mk gc go gt V).cells.toArray= #[.a gc,.bool go,.a gt,.string V]:=rfl;rw[q4];clear q4 hG q3;have k6:K_ F (F.alloc (.cells #[.a gc,.bool go,.a gt,.string V] 186)):=ah _ _;have x7:=i3.size;have K6:=i3.trans k6;have S:=Kz (G.o.kept K6);have c5:=Xz F #[.a gc,.bool go,.a gt,.string V] 186 1 _ rfl;have f2:=Xz F #[.a gc,.bool go,.a gt,.string V] 186 2 _ rfl;have e3:=Xz F #[.a gc,.bool go,.a gt,.string V] 186 3 _ rfl;simp only[Ow] at c5 f2 e3;have a3:F.heap.size<(F.alloc (.cells #[.a gc,.bool go,.a gt,.string V] 186)).heap.size:=A9;have g3:F.heap.size≠c:=by have:=(G.o.kept i3).box.row.lt;omega
       have g5:=Kz (l6.o.kept K6);clear t j v x k z A i;clear x5 p1 x6 i3 k6 q0 q1 l6;cases go
       .go_upto_region 22 with fail
        generalize C:F.alloc (.cells #[.a gc,.bool false,.a gt,.string V] 186)=w6 at S g5 c5 f2 e3 a3 K6⊢;clear C c5 e3 K6;have m2:=(HW.o.NP).1;rw[<-i4.o] at m2;have q5:gc=0:=by have h2:=Fh s a2;rw[<-i4.o] at h2;exact h2
        obtain⟨q6,q7⟩:=m2 q5 rfl;dsimp only at q6 q7;clear m2 q5;have z9:r.texts.length<=100:=A7;have A0:=r_ a2;obtain⟨ic,i5,i6,i7,i8⟩:=aY Tryz.eP;have m3:Hid (∀w',K_ w6 w'->J4 w' c 6 (.slice T r.texts.length U)):=λw' K=>(S.o.kept K).box.all.2.2.2.2.2.2
        refine bn 6 m3.o λwd KD Y=>?_
        refine ae 0 Y ?_;refine ae 1 Y ?_;refine ae 2 Y ?_;refine aF 3 (λK n=>?_);go_simp
        go_at_call 124
        refine (JF wd d3 p0 a2 A7 (g5.o.kept KD)).mono ?_;rintro e w9 ⟨⟨x8,c9,rfl,q8⟩,q9⟩;have K9:=KD.trans q9;have r0:=Kz q8;have a5:=Kz (S.o.kept K9);clear q9 q8;dsimp only;refine af n (λ_=>m3.o _ K9) ?_;clear n K;refine aj 4 (λK n=>?_);have x9:w.heap.size<=w9.heap.size:=a5.o.kw.size;refine dY (.tmp 80) (.tmp 82) 26 rfl w.heap.size 9 ic _ 16 underlying26 i5 i6 i7 i8 rfl (.slice T r.texts.length U) r.texts.length (r.texts.map Value.string) rfl a5.o.txt (some ⟨x8,0,none⟩) c9 (aW a2) rfl r0.o D5 A7 x9 ?_;intro v2 b3 m4 m5 r1;obtain⟨i9,j0,rfl⟩:=ay m4;have g7:=Kz (a5.o.texts m4 m5 r1);have kg:But (λb=>(Value.slice T r.texts.length U).ownBlock=some b) w9 b3:=But.aI m5 (λb e=>e);have m6:¬(Value.slice T r.texts.length U).ownBlock=some c:=λe=>aK (Yz a5.o.txt e) a5.o.box.row.type A8 rfl
        have m7:=kg.row a5.o.box.row m6;have m8:J4 b3 c 6 (.slice T r.texts.length U):=(kg.cell a5.o.box.row.lt m6).trans a5.o.box.all.2.2.2.2.2.2;have y0:¬(Value.slice T r.texts.length U).ownBlock=some F.heap.size:=λe=>by
         have Z:=(G.o.txt.lt _ e).2;have h2:w3.heap.size<=F.heap.size:=x7;omega
        have r2:J4 b3 F.heap.size 2 (.a gt):=(kg.cell (NR a3 K9.size) y0).trans ((K9.cell a3).trans f2);have r3:F.heap.size<b3.heap.size:=NR (NR a3 K9.size) kg.size;refine af n (λ_=>m8) ?_;clear n K;clear m4 m5 r1 kg m6;refine aj 5 (λK n=>?_);go_simp
        refine af n (λ_=>m8) ?_;clear n K;obtain⟨_,g6⟩:=m7.row.at (i:=6) A7;have y1:=m7.lt;refine aj 6 (λK n=>?_);go_simp
        refine af n (λh=>Pg rfl h) ?_;clear n K;refine aG ?_;have y2:(b3.setCell ⟨c,6,none⟩ (.slice i9 (r.texts.length+ (aW a2).length) j0)).cell? ⟨F.heap.size,2,none⟩=some (.a gt):=by rw[Zk g3];exact r2
        have y3:F.heap.size<(b3.setCell ⟨c,6,none⟩ (.slice i9 (r.texts.length+ (aW a2).length) j0)).heap.size:=by rw[size_setCell];exact r3
        generalize C:b3.setCell ⟨c,6,none⟩ (.slice i9 (r.texts.length+ (aW a2).length) j0)=A1 at g7 y2 y3⊢;clear C m8 m7 g6 y1 f2 a3 r2 r3 Y m3 KD K9 a5 r0 S g5;obtain⟨t,j,v,x,k,z,A⟩:=g7.o.box.all;have i:=g7.o.box.row.lt;obtain⟨_,g4⟩:=g7.o.box.row.row.at (i:=4) A7;go_wp2
        go_meet
        refine⟨{r with texts:=r.texts++aW a2,at':=gt},i9,j0,Kz (g7.o.put A7 rfl rfl),Kz (by unfold Y_;rw[b7.o];simp only;rw[Pf f7.o,b5.o,f8.o];simp only;rw[Pf g0.o,<-i4.o,Pf A9]),q6,q7,lo,(by show r.Zj<20;have:=g0.o;omega),(by show (r.texts++aW a2).length<=200;rw[OD];omega),Kz (λd8 ht=>?_),i1⟩;rcases N_.1 ht with ht | ht
        .exact c0.o.ts d8 ht
        .obtain⟨y4,hx,rfl⟩:=x_ ht;exact p9.o y4 hx
       .go_upto_region 17 with fail
        generalize C:F.alloc (.cells #[.a gc,.bool true,.a gt,.string V] 186)=w6 at S g5 c5 f2 e3 a3 K6⊢;clear C c5 f2 g5 K6;obtain⟨t,j,v,x,k,z,A⟩:=S.o.box.all;have i:=S.o.box.row.lt;obtain⟨_,m9⟩:=S.o.box.row.row.at (i:=5) A7;go_upto_region 18 with fail
        have b6:Hid (AgM w (w6.setCell ⟨c,5,none⟩ (.a (r.Zj+1))) c E X y.cost (some ⟨tb,tq,none⟩) y.steps.length nc ({r with Zj:=r.Zj+1}) T U (.slice qa L.length qc) L):=S.o.put A7 rfl rfl;have a6:(w6.setCell ⟨c,5,none⟩ (.a (r.Zj+1))).cell? ⟨F.heap.size,3,none⟩=some (.string V):=by rw[Zk g3];exact e3
        have a7:F.heap.size<(w6.setCell ⟨c,5,none⟩ (.a (r.Zj+1))).heap.size:=by rw[size_setCell];exact a3
        generalize C:w6.setCell ⟨c,5,none⟩ (.a (r.Zj+1))=w7 at b6 a6 a7⊢;clear C;clear t j v x k z A i;clear m9;clear e3 a3;have e3:=a6;have a3:=a7;clear a6 a7;obtain⟨t,j,v,x,k,z,A⟩:=b6.o.box.all;have i:=b6.o.box.row.lt;obtain⟨_,g1⟩:=b6.o.box.row.row.at (i:=1) A7;go_upto_region 19 with fail
        have e1:Hid (AgM w (w7.setCell ⟨c,1,none⟩ (.bool true)) c E X y.cost (some ⟨tb,tq,none⟩) y.steps.length nc ({r with Zj:=r.Zj+1,over:=true}) T U (.slice qa L.length qc) L):=b6.o.put A7 rfl rfl;have a6:(w7.setCell ⟨c,1,none⟩ (.bool true)).cell? ⟨F.heap.size,3,none⟩=some (.string V):=by rw[Zk g3];exact e3
        have a7:F.heap.size<(w7.setCell ⟨c,1,none⟩ (.bool true)).heap.size:=by rw[size_setCell];exact a3
        generalize C:w7.setCell ⟨c,1,none⟩ (.bool true)=w8 at e1 a6 a7⊢;clear C;clear t j v x k z A i;clear g1;clear e3 a3;have e3:=a6;have a3:=a7;clear a6 a7;obtain⟨t,j,v,x,k,z,A⟩:=e1.o.box.all;have i:=e1.o.box.row.lt;obtain⟨_,g2⟩:=e1.o.box.row.row.at (i:=2) A7;go_upto_region 20 with fail
        have a5:Hid (AgM w (w8.setCell ⟨c,2,none⟩ (.bool true)) c E X y.cost (some ⟨tb,tq,none⟩) y.steps.length nc ({r with Zj:=r.Zj+1,over:=true,fail:=true}) T U (.slice qa L.length qc) L):=e1.o.put A7 rfl rfl;have a6:(w8.setCell ⟨c,2,none⟩ (.bool true)).cell? ⟨F.heap.size,3,none⟩=some (.string V):=by rw[Zk g3];exact e3
        have a7:F.heap.size<(w8.setCell ⟨c,2,none⟩ (.bool true)).heap.size:=by rw[size_setCell];exact a3
        generalize C:w8.setCell ⟨c,2,none⟩ (.bool true)=w9 at a5 a6 a7⊢;clear C;clear t j v x k z A i;clear g2;clear e3 a3;have e3:=a6;have a3:=a7;clear a6 a7;obtain⟨t,j,v,x,k,z,A⟩:=a5.o.box.all;have i:=a5.o.box.row.lt;obtain⟨_,i2⟩:=a5.o.box.row.row.at (i:=3) A7;go_upto_region 21 with fail
        have g8:Hid (AgM w (w9.setCell ⟨c,3,none⟩ (.string V)) c E X y.cost (some ⟨tb,tq,none⟩) y.steps.length nc ({r with Zj:=r.Zj+1,over:=true,fail:=true,text:=V}) T U (.slice qa L.length qc) L):=a5.o.put A7 rfl rfl;have a6:(w9.setCell ⟨c,3,none⟩ (.string V)).cell? ⟨F.heap.size,3,none⟩=some (.string V):=by rw[Zk g3];exact e3
        have a7:F.heap.size<(w9.setCell ⟨c,3,none⟩ (.string V)).heap.size:=by rw[size_setCell];exact a3
        generalize C:w9.setCell ⟨c,3,none⟩ (.string V)=b3 at g8 a6 a7⊢;clear C;clear t j v x k z A i;clear i2;clear e3 a3;have e3:=a6;have a3:=a7;clear a6 a7;have b9:Hid (Y_ (Q_ Kj) (Qj l) r= ({r with Zj:=r.Zj+1,over:=true,fail:=true,text:=V},[])):=by show _=_;unfold Y_;rw[b7.o];simp only;rw[Pf f7.o,b5.o,f8.o];simp only;rw[Pf g0.o,<-i4.o,Pe rfl]
        obtain⟨f,D⟩:=ai (Qz.cells ({r with Zj:=r.Zj+1,over:=true,fail:=true,text:=V}) T U);have M:f.length=7:=by rw[D];rfl
        have d2:Hid (f.toArray.all (·.oneCell')=true):=by show _=_;rw[D];exact all_oneCell_toArray (by simp[Qz.cells,Value.oneCell'])
        have d4:Hid (b3.rangeAt c 0 f):=by show World.rangeAt _ _ _ _;rw[D];exact g8.o.box.rng
        have i:=g8.o.box.row.lt;have d5:Hid ((prog.info? 40).map (·.size)=some f.toArray.size):=by show _=_;rw[Tryz.jM];simp[M]
        have a9:Hid ((prog.info? 40).map (·.size)=some f.length):=by show _=_;rw[Tryz.jM,M]
        have b0:Hid (b3.there E 0 f.toArray.size):=by show World.there _ _ _ _;simpa[M] using g8.o.res.row.there (o:=0) (m:=7) (NQ _)
        have⟨d6,l0⟩:=aH D M;clear D M;go_wp2_with (first | (refine wpList_load_mid rfl 40 _ rfl c 0 rfl f _ d4.o underlying40 rfl a9.o ?_) | (refine wpList_store_mid rfl 40 _ _ rfl E 0 f.toArray rfl rfl b0.o d5.o d2.o ?_;rw[List.toList_toArray]))
        have hR:=NU b3 E 0 f (by have:=b0.o;simpa using this);refine bI f _ _ results85 rfl hR underlying40 rfl a9.o rfl rfl ?_;have d7:=d6.o;subst d7;exact g8.o.ends (h8.o.trans (by rw[b9.o,List.append_nil])) f9.o (λh=>by have Z:=h.1;cases Z) rfl
   case rest=>
    clear t j v x k z A i;clear Q lo w0 tl c7 c8;obtain⟨B,b4,b8,Q,r4,A2,A3,w5,A4,A5,y5,i1⟩:=hcut;obtain⟨wM,rfl⟩:=ai wc;have f9:Hid (∀a4,a4<J+1->aZ (Q_ Kj) (Qj l) (aJ (Q_ Kj) (Qj l) P a4).1):=λa4 hi=>by
     rcases Nat.lt_or_ge a4 J with g|g
     .exact d0.o a4 g
     .obtain rfl:a4=J:=A7;rw[d1.o];exact i1.o
    go_upto_region 24 with fail
    obtain⟨t,j,v,x,k,z,A⟩:=Q.o.box.all;have i:=Q.o.box.row.lt;obtain⟨_,m9⟩:=Q.o.box.row.row.at (i:=5) A7;go_upto_region 25 with fail
    have c3:Hid (AgM w (wM.setCell ⟨c,5,none⟩ (.a (B.Zj+1))) c E X y.cost na y.steps.length nc ({B with Zj:=B.Zj+1}) b4 b8 (.slice qa L.length qc) L):=Q.o.put A7 rfl rfl;generalize C:wM.setCell ⟨c,5,none⟩ (.a (B.Zj+1))=wP at c3  ⊢;clear C;clear t j v x k z A i;clear m9;obtain⟨t,j,v,x,k,z,A⟩:=c3.o.box.all;have i:=c3.o.box.row.lt;dsimp only at k;obtain⟨ix,c2⟩:∃ix:Nat,B.at'= (ix:Int):=⟨B.at'.toNat,A7⟩;have f4:ix<y.steps.length:=A7;have x0:(ix:Int)<(y.steps.length:Int):=A7;obtain⟨tb,tq,x1,rfl,l1,R,H,I,N,O,rfl,d9,f5,_⟩:=(Steps.kept k3.o c3.o.kw) ix f4;obtain⟨s,hs⟩:=ai (y.steps.getD ix Xj.zero);rw[<-hs] at R d9 f5;have t0:=R 0 _ rfl;have t1:=R 1 _ rfl;have t2:=R 2 _ rfl;have t3:=R 3 _ rfl;have t4:=R 4 _ rfl;have t5:=R 5 _ rfl;have t6:=R 6 _ rfl;have t7:=R 7 _ rfl;rw[OJ] at t0;have e9:s∈y.steps:=by rw[hs];simp[List.getD,f4]
    have o8:=(h1 y e8 s e9).1;have o9:=(h1 y e8 s e9).2;have i0:=n5 y e8;have b5:Hid (stepOf ⟨y.cost,y.steps⟩ B.at'=s):=by show _=_;unfold stepOf;rw[c2,hs];rfl
    have p1:=c3.o.a1;have pz:=c3.o.act.lt;rw[c2] at k;have f6:=Kz d9;clear R d9 f5 hs;have y6:=i0.each s e9;clear c2;go_upto_region 26 with fail
    have kS:K_ wP (wP.alloc (.cells #[.slice H s.asks.length I,.a s.on,.slice N s.cases.length O,.a s.els,.a s.fall,.bool s.fin,.bool s.bad,.string s.give] 176)):=ah _ _;have G:=Kz (c3.o.kept kS);have n0:=Kz (f6.o.kept kS);have v0:=Xz wP #[.slice H s.asks.length I,.a s.on,.slice N s.cases.length O,.a s.els,.a s.fall,.bool s.fin,.bool s.bad,.string s.give] 176 0 _ rfl;have v5:=Xz wP #[.slice H s.asks.length I,.a s.on,.slice N s.cases.length O,.a s.els,.a s.fall,.bool s.fin,.bool s.bad,.string s.give] 176 5 _ rfl;have v6:=Xz wP #[.slice H s.asks.length I,.a s.on,.slice N s.cases.length O,.a s.els,.a s.fall,.bool s.fin,.bool s.bad,.string s.give] 176 6 _ rfl;have v7:=Xz wP #[.slice H s.asks.length I,.a s.on,.slice N s.cases.length O,.a s.els,.a s.fall,.bool s.fin,.bool s.bad,.string s.give] 176 7 _ rfl;simp only[Ow] at v0 v5 v6 v7;have e2:wP.heap.size<(wP.alloc (.cells #[.slice H s.asks.length I,.a s.on,.slice N s.cases.length O,.a s.els,.a s.fall,.bool s.fin,.bool s.bad,.string s.give] 176)).heap.size:=A9;obtain⟨sb,e0⟩:=ai wP.heap.size;have j1:sb≠c:=by rw[e0];omega
    have n1:Hid (bf (wP.alloc (.cells #[.slice H s.asks.length I,.a s.on,.slice N s.cases.length O,.a s.els,.a s.fall,.bool s.fin,.bool s.bad,.string s.give] 176)) sb 176):=by rw[e0];exact (aB.made wP _ _).type
    rw[<-e0] at v0 v5 v6 v7 e2⊢;generalize C:wP.alloc (.cells #[.slice H s.asks.length I,.a s.on,.slice N s.cases.length O,.a s.els,.a s.fall,.bool s.fin,.bool s.bad,.string s.give] 176)=wQ at G n0 n1 v0 v5 v6 v7 e2⊢;clear C kS e0 t0 t1 t2 t3 t4 t5 t6 t7 p1 pz l1 f6 c3;clear t j v x k z A i;obtain⟨ic,i5,i6,i7,i8⟩:=aY Tryz.eP;have r5:w.heap.size<=wQ.heap.size:=G.o.kw.size;go_upto_region 27 with (at_builtin;refine fD rfl (.tmp 98) (.tmp 100) 26 rfl w.heap.size 9 ic _ 16 underlying26 i5 i6 i7 i8 rfl (.slice qa L.length qc) L.length (L.map Value.string) rfl G.o.ask H I s.asks rfl n0.o D5 A7 r5 ?_;intro vA wA n2 n3 r6;obtain⟨g9,h0,rfl⟩:=ay n2;have b1:=Kz (G.o.asks n2 n3 r6);have kA:But (λb=>(Value.slice qa L.length qc).ownBlock=some b) wQ wA:=But.aI n3 (λb e=>e);have j2:Hid (¬(Value.slice qa L.length qc).ownBlock=some sb):=λe=>aK n1.o (Yz G.o.ask e) A8 rfl)
    have u5:=(kA.cell e2 j2.o (o:=5)).trans v5;have u6:=(kA.cell e2 j2.o (o:=6)).trans v6;have u7:=(kA.cell e2 j2.o (o:=7)).trans v7;have r7:=NR e2 kA.size;have e4:=r7;have e5:=r7;clear v0 v5 v6 v7 e2 kA j2 n2 n3 r6 G n0 n1 r5 i5 i6 i7 i8;have r8:(L++s.asks).length=L.length+s.asks.length:=OD;have j3:=Kz r8;clear r8;cases j4:s.fin
    .rw[j4] at u5;go_wp2
     go_roundg (gk-1)
     case measure=>omega
     case rel=>
      have b9:aJ (Q_ Kj) (Qj l) P (J+1)= ({B with Zj:=B.Zj+1},L++s.asks):=by rw[h8.o,r4.o];unfold bK;rw[b5.o,j4];rfl
      exact⟨J+1,b4,b8,g9,h0,by rw[b9,j3.o],A7,f9,Kz (by rw[b9];dsimp only;rw[j3.o];exact b1.o)⟩
    .rw[j4] at u5;go_upto_region 28 with fail
     obtain⟨t,j,v,x,k,z,A⟩:=b1.o.box.all;have i:=b1.o.box.row.lt;obtain⟨_,g1⟩:=b1.o.box.row.row.at (i:=1) A7;go_upto_region 29 with fail
     have b2:Hid (AgM w (wA.setCell ⟨c,1,none⟩ (.bool true)) c E X y.cost (some ⟨tb,tq,none⟩) y.steps.length nc ({B with Zj:=B.Zj+1,over:=true}) b4 b8 (.slice g9 (L.length+s.asks.length) h0) (L++s.asks)):=b1.o.put A7 rfl rfl;have u62:(wA.setCell ⟨c,1,none⟩ (.bool true)).cell? ⟨sb,6,none⟩=some (.bool s.bad):=by rw[Zk j1];exact u6
     have e6:sb<(wA.setCell ⟨c,1,none⟩ (.bool true)).heap.size:=by rw[size_setCell];exact e4
     have u72:(wA.setCell ⟨c,1,none⟩ (.bool true)).cell? ⟨sb,7,none⟩=some (.string s.give):=by rw[Zk j1];exact u7
     have e7:sb<(wA.setCell ⟨c,1,none⟩ (.bool true)).heap.size:=by rw[size_setCell];exact e5
     generalize C:wA.setCell ⟨c,1,none⟩ (.bool true)=wR at b2 u62 e6 u72 e7⊢;clear C;clear t j v x k z A i;clear g1;clear u6 e4;have u6:=u62;have e4:=e6;clear u62 e6;clear u7 e5;have u7:=u72;have e5:=e7;clear u72 e7;obtain⟨t,j,v,x,k,z,A⟩:=b2.o.box.all;have i:=b2.o.box.row.lt;obtain⟨_,g2⟩:=b2.o.box.row.row.at (i:=2) A7;go_upto_region 30 with fail
     have S:Hid (AgM w (wR.setCell ⟨c,2,none⟩ (.bool s.bad)) c E X y.cost (some ⟨tb,tq,none⟩) y.steps.length nc ({B with Zj:=B.Zj+1,over:=true,fail:=s.bad}) b4 b8 (.slice g9 (L.length+s.asks.length) h0) (L++s.asks)):=b2.o.put A7 rfl rfl;have u62:(wR.setCell ⟨c,2,none⟩ (.bool s.bad)).cell? ⟨sb,6,none⟩=some (.bool s.bad):=by rw[Zk j1];exact u6
     have e6:sb<(wR.setCell ⟨c,2,none⟩ (.bool s.bad)).heap.size:=by rw[size_setCell];exact e4
     have u72:(wR.setCell ⟨c,2,none⟩ (.bool s.bad)).cell? ⟨sb,7,none⟩=some (.string s.give):=by rw[Zk j1];exact u7
     have e7:sb<(wR.setCell ⟨c,2,none⟩ (.bool s.bad)).heap.size:=by rw[size_setCell];exact e5
     generalize C:wR.setCell ⟨c,2,none⟩ (.bool s.bad)=wS at S u62 e6 u72 e7⊢;clear C;clear t j v x k z A i;clear g2;clear u6 e4;have u6:=u62;have e4:=e6;clear u62 e6;clear u7 e5;have u7:=u72;have e5:=e7;clear u72 e7;obtain⟨t,j,v,x,k,z,A⟩:=S.o.box.all;have i:=S.o.box.row.lt;have y7:s.give.size<=maxLen:=y6.give;have y8:B.texts.length<=maxLen:=D5;have r9:∀d8∈B.texts,d8.size<=maxLen:=λd8 ht=>by have:=y5.o d8 ht;unfold maxLen;omega
     have s0:Hid (Strs wS b4 B.texts):=by
      obtain⟨ta,tc,s1,y9⟩:=bv S.o.txt;simp only[OG] at s1;rw[s1.1];exact y9
     go_wp2_with fail
     refine (yD wS s.give b4 b8 B.texts y7 y8 r9 s0.o).mono ?_;rintro e wT ⟨rfl,kT⟩;have b6:=Kz (S.o.kept kT);clear u6 u7 e4 e5 kT r9 s0;clear t j v x k z A i;obtain⟨fb,n4⟩:=ai (jl s.give B.texts);rw[<-n4];have z0:=Kz n4;clear n4;obtain⟨t,j,v,x,k,z,A⟩:=b6.o.box.all;have i:=b6.o.box.row.lt;obtain⟨_,i2⟩:=b6.o.box.row.row.at (i:=3) A7;go_wp2_with fail
     have e1:Hid (AgM w (wT.setCell ⟨c,3,none⟩ (.string fb)) c E X y.cost (some ⟨tb,tq,none⟩) y.steps.length nc ({B with Zj:=B.Zj+1,over:=true,fail:=s.bad,text:=fb}) b4 b8 (.slice g9 (L.length+s.asks.length) h0) (L++s.asks)):=b6.o.put A7 rfl rfl;go_roundg (gk-1)
     case measure=>omega
     case rel=>
      have b9:aJ (Q_ Kj) (Qj l) P (J+1)= ({B with Zj:=B.Zj+1,over:=true,fail:=s.bad,text:=fb},L++s.asks):=by rw[h8.o,r4.o];unfold bK;rw[b5.o,j4,z0.o];rfl
      exact⟨J+1,b4,b8,g9,h0,by rw[b9,j3.o],A7,f9,Kz (by rw[b9];dsimp only;rw[j3.o];exact e1.o)⟩
def ovr :List Pw->Nat->List Pw->List Pw
 | xs,_,[]=>xs
 | xs,o,v :: vs=>ovr (xs.set o v) (o+1) vs
theorem Gd :∀(vs xs:List Pw) (o:Nat),(ovr xs o vs).length=xs.length
 | [],_,_=>rfl
 | v :: vs,xs,o=>by unfold ovr;rw[Gd vs];simp
theorem Gc :∀(vs xs:List Pw) (o j:Nat),j<xs.length->(ovr xs o vs)[j]? =if o<=j/\j<o+vs.length then vs[j-o]? else xs[j]?
 | [],xs,o,j,_=>by unfold ovr;rw[Pf A9]
 | v :: vs,xs,o,j,hj=>by
  unfold ovr;rw[Gc vs _ _ _ (by simpa using hj)];by_cases a:o+1<=j/\j<o+1+vs.length
  .rw[Pe a,Pe D6,show j-o= (j-(o+1))+1 by omega,List.getElem?_cons_succ]
  .rw[Pf a];by_cases b:j=o
   .subst b;rw[Pe A9,Nat.sub_self,List.getElem?_cons_zero,O_ hj]
   .rw[Pf D6,Oj (Ne.symm b)]
variable {base cap g n : Nat}
theorem pM{size:Nat}{e:TypeId}:∀(vs:List Pw) {w:Pv} {xs:List Pw} (o:Nat),w.ownsRow base e size (.b g n cap) n xs->(w.setCells g o vs).ownsRow base e size (.b g n cap) n (ovr xs o vs)
 | [],_,_,_,h=>h
 | v :: vs,w,xs,o,h=>by
  rw[World.setCells];unfold ovr;exact pM vs (o+1) (h.stored o v).1
variable {l : List Qz} {xs : List Pw} {i : Nat}
theorem Ki{cs:List Pw}(b:xs.length=l.length*7)(c:cs.length=7)(j:Nat)(d:j<l.length)(hi:i<l.length):((ovr xs (i*7) cs).drop (j*7)).take 7=if j=i then cs else (xs.drop (j*7)).take 7:=by
 apply List.ext_getElem?;intro k;rw[List.getElem?_take];by_cases a:k<7
 .rw[Pe a,List.getElem?_drop,Gc _ _ _ _ (by rw[b];omega),c];by_cases e:j=i
  .subst e;rw[Pe rfl,Pe A7,show j*7+k-j*7=k by omega]
  .rw[Pf e,Pf A7,List.getElem?_take,Pe a,List.getElem?_drop]
 .rw[Pf a];by_cases e:j=i
  .rw[Pe e,List.getElem?_eq_none A7]
  .rw[Pf e,List.getElem?_take,Pf a]
variable {w : Pv}
theorem cK.set{r:Qz}{xa:Pt}{xc:Nat}(h:cK w xs l)(hi:i<l.length)(c:fA w 9 xa r.texts)(d:xa=none->xc=0):cK w (ovr xs (i*7) (r.cells xa xc)) (l.set i r):=by
 refine⟨by rw[Gd,OZ];exact h.1,λj a=>?_⟩;rw[OZ] at a;rw[Ki h.1 D8 j a hi];by_cases e:j=i
 .subst e;have b:(l.set j r).getD j Qz.zero=r:=by simp[List.getD,a]
  rw[Pe rfl,b];exact⟨xa,xc,rfl,c,d⟩
 .have b:(l.set i r).getD j Qz.zero=l.getD j Qz.zero:=by simp[List.getD,Oj (Ne.symm e)]
  rw[Pf e,b];exact h.2 j a
theorem cK.one(h:cK w xs l):∀u∈xs,u.oneCell'=true:=λu b=>by
 obtain⟨j,c,rfl⟩:=Oc b;have d:j / 7<l.length:=by have:=h.1;omega
 obtain⟨f,i,e,_⟩:=h.2 (j / 7) d;have a:xs[j]∈(xs.drop (j / 7*7)).take 7:=by
  refine List.mem_iff_getElem?.2 ⟨j % 7, ?_⟩;rw[List.getElem?_take,Pe (Nat.mod_lt _ A7),List.getElem?_drop,show j / 7*7+j % 7=j by omega];exact NV c
 rw[e] at a;exact Qz.one _ _ _ _ a
theorem cK.at(h:cK w xs l)(a:w.ownsRow base 40 7 (.b g n cap) n xs)(hi:i<l.length):∃xa xc,w.rangeAt g (i*7) ((l.getD i Qz.zero).cells xa xc)/\fA w 9 xa (l.getD i Qz.zero).texts/\(xa=none->xc=0)/\w.there g (i*7) 7:=by
 obtain⟨xa,xc,e,f,k⟩:=h.2 i hi;have m:n=l.length:=by have p:=a.1;have q:=h.1;omega
 refine⟨xa,xc,λj u b=>?_,f,k,λj c=>?_⟩
 .have c:j<7:=by have:=(NW.1 b).1;simpa[Qz.cells] using this
  have d:((xs.drop (i*7)).take 7)[j]? =some u:=by rw[e];exact b
  rw[List.getElem?_take,Pe c,List.getElem?_drop] at d;have:=a.cells (g:=g) rfl _ _ d;rw[OI,Ow] at this;exact this
 .refine⟨?_,a.frozenAt _⟩;rw[a.cellAt _ A7,NV (by rw[h.1];omega)]
  rfl
theorem iI :∀(vs:List Pw) (o:Nat) (w:Pv),But (λb=>b=g) w (w.setCells g o vs)
 | [],_,w=>But.au (K_.refl w)
 | v :: vs,o,w=>by
  rw[World.setCells];exact (But.set (S:=λb=>b=g) (But.au (K_.refl w)) (p:=⟨g,o,none⟩) rfl v).trans (iI vs (o+1) _)
variable {dc kb : Nat} {a d : Pt}
theorem Dy{m:Nat}{k b:Nat}(h:jb w kb a n cap d m dc)(e:w.ownsRow base 40 7 (.b g k b) k xs):kb≠g:=λf=>by
 subst f;exact own_ne h.row e rfl
variable {R : List Qz}
theorem KnZ.other{c wr:Pv}{j m:Nat}{l:List Pw}(h:KnZ c wr wr kb (.slice d R.length dc) a n cap R d dc xs)(i:wr.ownsRow base 40 7 (.b g m j) m l)(p:c.heap.size<=g)(q:(Value.slice d R.length dc).ownBlock≠some g)(o:Nat)(vs:List Pw):
  KnZ c (wr.setCells g o vs) (wr.setCells g o vs) kb (.slice d R.length dc) a n cap R d dc xs:=by
 have k:=iI vs o wr (g:=g);have f:=Dy h.known i;exact⟨bJ p vs o h.kw,But.au (K_.refl _),λ_ e=>.inl e,⟨k.row h.known.row f,(k.cell h.known.row.lt f).trans h.known.web,(k.cell h.known.row.lt f).trans h.known.runs⟩,k.owns h.own (λb e (r:b=g)=>q (by rw[e,r])),h.pack.but k (λb (e:b=g)=>by rw[e];exact dK i g rfl),h.nl⟩
theorem KnZ.over{c wr:Pv}{r:Qz}{xa:Pt}{xc:Nat}(h:KnZ c wr wr kb (.b g R.length dc) a n cap R (some ⟨g,0,none⟩) dc xs)(hi:i<R.length)(f:fA wr 9 xa r.texts)(j:xa=none->xc=0):
  KnZ c (wr.setCells g (i*7) (r.cells xa xc)) (wr.setCells g (i*7) (r.cells xa xc)) kb (.b g (R.set i r).length dc) a n cap (R.set i r) (some ⟨g,0,none⟩) dc (ovr xs (i*7) (r.cells xa xc)):=by
 have k:=iI (r.cells xa xc) (i*7) wr (g:=g);have d:=Dy h.known h.own;have l:c.heap.size<=g:=(h.own.lt g rfl).1;have m:∀b,b=g->¬bf wr b 9:=λb e=>by rw[e];exact dK h.own g rfl
 refine⟨bJ l _ _ h.kw,But.au (K_.refl _),λ_ e=>.inl e,⟨k.row h.known.row d,(k.cell h.known.row.lt d).trans h.known.web, ?_⟩, ?_, ?_,λe=>(by rw[OZ] at e;omega)⟩
 .rw[OZ];exact (k.cell h.known.row.lt d).trans h.known.runs
 .rw[OZ];exact pM _ _ h.own
 .exact (h.pack.set hi f j).but k m
theorem Tryz.kQ :(prog.info? 40).map (·.size)=some 7:=C9
def AllEnd(Kj:List Qq)(Kk:List Ps)(a:Pt)(cap:Nat)(w w':Pv)(e:Ending):Prop:=
 ∃(kb:Nat) (L:List Qz) (d:Pt) (dc:Nat) (xs:List Pw),e= .returned (.c kb)/\w.heap.size<=kb/\ny Kj Kk L false 0/\KnZ w w' w' kb (.slice d L.length dc) a Kj.length cap L d dc xs
structure vO (w wr:Pv) (kb:Nat) (a:Pt) (n cap:Nat) (L R nx:List Qz) (d:Pt) (dc:Nat) (xs:List Pw) (g nc:Nat) (ys:List Pw):Prop where
 kn:KnZ w wr wr kb (.slice d R.length dc) a n cap R d dc xs
 own:wr.ownsRow w.heap.size 40 7 (.b g L.length nc) L.length ys
 pack:cK wr ys nx
 ne:(Value.slice d R.length dc).ownBlock≠some g
variable {L nx : List Qz}
theorem vO.kept{wr w':Pv}{c:Nat}{e:List Pw}(h:vO w wr kb a n cap L R nx d dc xs g c e)(k:K_ wr w'):vO w w' kb a n cap L R nx d dc xs g c e:=
 ⟨(h.kn.kept k).again,ak h.own k,h.pack.kept k,h.ne⟩
variable {Kj : List Qq}
theorem Lm{b:Bool}(h:lQ Kj L R nx i b):nx.length=L.length/\L.length<=R.length:=by
 obtain⟨F,c,_⟩:=h.pre;exact⟨h.len,by rw[c,OD];omega⟩
theorem LV{b:Bool}(h:lQ Kj L R nx i b){j:Nat}(c:j<L.length):R.getD j Qz.zero=L.getD j Qz.zero:=by
 obtain⟨F,d,_⟩:=h.pre;rw[d];simp[List.getD,OU c]
theorem Hw(e:aX (Q_ Kj)){b:Bool}(h:lQ Kj L R nx i b)(f:dw Kj (Qj L)):dw Kj (Qj R):=by
 obtain⟨F,j,k⟩:=h.pre;intro n r a;rw[j,lD] at a;cases c:Qj L n with
 | some x=>rw[c] at a;cases a;exact f n _ c
 | none=>
  rw[c] at a;have d:=aN a;obtain⟨l,m⟩:=k r d.1;refine⟨d.2, ?_⟩;rw[l];exact gD e m
theorem Io(a:(R.map (·.name)).Nodup)(c:∀r∈R,(Q_ Kj r.name).isSome=true):R.length<=Kj.length:=by
 have:=List.Nodup.length_le_of_subset a (λn a=>by
  obtain⟨r,d,rfl⟩:=Oq.1 a;exact jA (c r d):∀n∈R.map (·.name),n∈Kj.map (·.name))
 simpa using this
theorem JO{b:Bool}(h:lQ Kj L R nx i b)(c:ClT (Q_ Kj) (Qj L)):R.length<=Kj.length:=by
 refine Io h.dif (λr a=>?_);obtain⟨F,d,e⟩:=h.pre;rw[d] at a;rcases N_.1 a with g | g
 .exact c.web _ _ (gJ h.nd.2 g)
 .exact (e r g).2
theorem KL(a:aX (Q_ Kj)){σ:Env}(b:dw Kj σ){n:Ps}(c:(Q_ Kj n).isSome=true){k:Nat}(d:∀j,j<k->aZ (Q_ Kj) σ (aJ (Q_ Kj) σ n j).1):(aJ (Q_ Kj) σ n k).2.length<=110:=by
 have e:=sw a b c d;have f:=Cf a b c d;omega
theorem uJ{c:Nat}(h:w.ownsRow base 40 7 (.slice d n c) n xs)(a:0<n):∃g,d=some ⟨g,0,none⟩:=by
 rcases h.2 with⟨e,b⟩|⟨g,f,i,e,_⟩
 .omega
 .cases e;exact⟨g,rfl⟩
theorem IW(w:Pv)(a:Pt)(cap:Nat)(Kj:List Qq)(ra:Pt)(rc:Nat)(Kk:List Ps)(i2:Kj.length<=60)(k8:∀y∈Kj,y.Fits)(k9:uy Kj)(c5:aX (Q_ Kj))(n6:Kk.length<=10)(hN:bN w a Kj)(hR:Strs w ra Kk):
  Calls prog 35 #[.agg #[.slice a Kj.length cap],.slice ra Kk.length rc] w λe w'=>AllEnd Kj Kk a cap w w' e:=by
 obtain⟨W1,d0⟩:=ai ((w.alloc (.cells #[.slice a Kj.length cap] 25)).alloc (.cells #[.slice a Kj.length cap,J3] 86));have k1:K_ w W1:=by rw[d0];exact (ah _ _).alloc _
 obtain⟨p,f4⟩:=ai (w.heap.size+1);have d2:w.heap.size<=p:=A7;have i3:Hid (jb W1 p a Kj.length cap none 0 0):=by
  have hr:aB W1 p 86 2:=by
   have h:=aB.made (w.alloc (.cells #[.slice a Kj.length cap] 25)) #[.slice a Kj.length cap,J3] 86;rw[OC] at h;rw[d0,f4];exact h
  have h2:=Iy (w:=w.alloc (.cells #[.slice a Kj.length cap] 25)) (v0:= .slice a Kj.length cap) (v1:= J3) (t:=86) (w1:=W1) (by rw[d0];exact K_.refl _);rw[OC,<-f4] at h2;exact⟨hr,h2.1,h2.2⟩
 have i4:Hid (KnZ w W1 W1 p (.slice none ([]:List Qz).length 0) a Kj.length cap [] none 0 []):=⟨k1,But.au (K_.refl _),λ_ e=>(by cases e),i3.o,OO _ _ _ _,cK.nil _,λ_=>⟨rfl,rfl⟩⟩;have a6:Hid (Jn W1 (λb=>b=p\/(Value.slice none ([]:List Qz).length 0).ownBlock=some b) ra Kk):=λi hi=>by
  obtain⟨b,o,ha,hb,hc⟩:=hR i hi;refine⟨b,o,ha,NR hb k1.size, ?_,(k1.cell hb).trans hc⟩;rintro (e|e)
  .omega
  .cases e
 have l0:=(EY (w:=w) (v:= .slice a Kj.length cap) (t:=25) (w1:=w.alloc (.cells #[.slice a Kj.length cap] 25)) (K_.refl _)).1;go_enter func35,ntmps35
 go_upto_region 2 with fail
 rw[<-d0,<-f4];clear d0 f4 l0;go_wp2_with fail
 refine (qP w W1 p d2 a cap Kj ra rc Kk [] none 0 [] A7 A7 A9 i4.o hN a6.o).mono ?_;rintro e w1 ⟨rfl,d1,l1,l2,hZ⟩;have G:=Kz hZ.again;clear hZ i4 a6 i3 k1;go_wp2
 go_loopg [6] (cZ (Kj.map (·.name)) (Qj (dh (Q_ Kj) [] Kk))+1) (λgg x6 wr=>∃(ag:Bool) (L:List Qz) (b0:Pt) (r:Nat) (s:List Pw),x6= .bool ag/\Hid (ny Kj Kk L ag gg)/\Hid (KnZ w wr wr p (.slice b0 L.length r) a Kj.length cap L b0 r s))
 case atStart=>exact⟨true,dh (Q_ Kj) [] Kk,d1,l1,l2,rfl,Kz (ny.start c5 Kk),G⟩
 case round=>
  clear G;obtain⟨ag,L,b0,r,s,rfl,T,G⟩:=hrel;have l3:=NT T.o.len i2;cases ag
  .have l4:Hid (ny Kj Kk L false 0):=by
    have h:=T.o;have e:=h.gg;rw[Pf A9] at e;rw[e] at h;exact h
   go_wp2
   go_ret
   exact⟨p,L,b0,r,s,rfl,d2,l4.o,G.o⟩
  have U:=G.o.known.runs;have zk:=G.o.known.row.lt;by_cases i5:L.length=0
  .have l5:L=[]:=Og.1 i5;subst l5;have hd:b0=none/\r=0:=G.o.nl rfl;obtain⟨rfl,rfl⟩:=hd;have f6:Hid (KnZ w (wr.alloc (.cells #[] 40)) (wr.alloc (.cells #[] 40)) p (.slice none ([]:List Qz).length 0) a Kj.length cap [] none 0 s):=(G.o.kept (ah _ _)).again;have a7:Hid (ny Kj Kk [] false 0):=⟨T.o.nd,T.o.good,T.o.led,λ_ n7 ⟨n8,hr,_⟩=>(by cases hr),rfl⟩;have l6:0<gk:=by have e:=T.o.gg;rw[Pe rfl] at e;omega
   clear i5 l3;simp only[List.length_nil] at U;go_wp2
   go_loopw [6,9] (λx6 x9 wq=>x6= .bool false/\x9= .a 0/\wq=wr.alloc (.cells #[] 40)) (λ_ _ _=>0)
   case atStart=>exact⟨rfl,rfl,rfl⟩
   case round=>
    obtain⟨rfl,rfl,rfl⟩:=hrel;have m2:=f6.o.known.runs;have n9:=f6.o.known.row.lt;simp only[List.length_nil] at m2;go_wp2
    go_loopw [12] (λa9 wq=>a9= .a 0/\wq=wr.alloc (.cells #[] 40)) (λ_ _=>0)
    case atStart=>exact⟨rfl,rfl⟩
    case round=>
     obtain⟨rfl,rfl⟩:=hrel;go_wp2
     go_roundg 0
     case measure=>exact l6
     case rel=>exact⟨false,[],none,0,s,rfl,a7,f6⟩
  have i6:0<L.length:=A7;obtain⟨g0,rfl⟩:=uJ G.o.own i6;obtain⟨eb,f5⟩:=ai wr.heap.size;obtain⟨WE,d3⟩:=ai (wr.alloc (.cells #[] 40));have kE:K_ wr WE:=by rw[d3];exact ah _ _
  have f7:Hid (WE.ownsRow w.heap.size 40 7 (.b eb 0 0) 0 []):=by
   rw[d3,f5];exact Ov wr #[] 0 G.o.kw.size (NS _) rfl
  have i7:WE.heap.size=wr.heap.size+1:=by rw[d3];simp
  have c6:=Kz (G.o.kept kE).again;have l7:=c6.o.known.runs;have l8:=c6.o.known.row.lt;have l9:g0<wr.heap.size:=(G.o.own.lt g0 rfl).2;have i8:s.length=L.length*7:=G.o.pack.1;have i9:Hid (∀j u,s[j]? =some u->WE.cell? ((⟨g0,0,none⟩:Addr).add j)=some u):=c6.o.own.cells rfl;have j0:Hid (∀u∈s,u.oneCell'=true):=G.o.pack.one;obtain⟨ic,m0,m1,m3,m4⟩:=aY Tryz.yP;have j1:w.heap.size<=WE.heap.size:=NT G.o.kw.size kE.size;have m5:eb=wr.heap.size:=f5;have m6:g0<eb:=A7;have m7:p<wr.heap.size:=zk;go_upto_region 7 with fail
  go_wp2_with (at_builtin;rw[<-d3,<-f5];refine wpList_append_lies _ rfl (.tmp 25) (.tmp 29) 30 rfl w.heap.size 40 ic _ 7 80 underlying30 m0 m1 m3 m4 rfl A8 (.b eb 0 0) 0 [] rfl f7.o ⟨g0,0,none⟩ L.length r s rfl i8 i9.o j0.o i6 D5 A7 j1 (wr.heap.size+1) i7 ?_;intro c V w6 f8 j2 j3 m8;rw[Ow,List.nil_append] at f8;have f9:=Kz f8;have j4:=Kz j2;have j5:=Kz j3;clear f8 j2 j3)
  have m9:g0<c:=by
   rcases j5.o with e|e
   .simp only[Value.ownBlock,OE] at e;omega
   .omega
  have g1:Hid (But (λb=>b=eb) WE w6):=But.aI j4.o (λb e=>by simp only[Value.ownBlock,OE] at e;exact e.symm);have j6:Hid (vO w w6 p a Kj.length cap L L L (some ⟨g0,0,none⟩) r s c V s):=by
   have j7:∀b,b=eb->¬bf WE b 9:=λb e=>by rw[e];exact dK f7.o eb rfl
   have n0:=c6.o.but g1.o (λb e=>by rw[e];have:=G.o.kw.size;omega) (λ(e:p=eb)=>A7) (λb e=>by simp only[Value.ownBlock,OE] at e;omega) j7;exact⟨n0,f9.o,c6.o.pack.but g1.o j7,λe=>by simp only[Value.ownBlock,OE] at e;omega⟩
  have j8:Hid (lQ Kj L L L 0 false):=lQ.start T.o.nd;have g2:=Kz T.o.cl;have g3:w.heap.size<=c:=(f9.o.lt c rfl).1;clear U m5 m6 m7 f5 d3 i7 kE f7 c6 l7 l8 i9 j0 f9 j4 j5 g1 i8 zk l9 j1 m8 m9;go_wp2
  go_loopw [6,9] (λx6 x9 wr=>∃(i:Nat) (b:Bool) (R x:List Qz) (b0:Pt) (r:Nat) (s J:List Pw),i<=L.length/\x9= .a (i:Int)/\x6= .bool b/\Hid (lQ Kj L R x i b)/\Hid (vO w wr p a Kj.length cap L R x b0 r s c V J)) (λ_ x9 _=>L.length-(intOf x9).toNat)
  case atStart=>exact⟨0,false,L,L,some ⟨g0,0,none⟩,r,s,s,NS _,rfl,rfl,j8,j6⟩
  case round=>
   clear j6 j8 G;obtain⟨i,b,R,x,b0,r,s,J,hi,rfl,rfl,a6,n⟩:=hrel;obtain⟨W,o0⟩:=Lm a6.o;have o1:=NT (JO a6.o g2.o) i2;obtain⟨g,rfl⟩:=uJ n.o.kn.own A7;have U:=n.o.kn.known.runs;have zk:=n.o.kn.known.row.lt;have Z:g<wr.heap.size:=(n.o.kn.own.lt g rfl).2;by_cases F:i<L.length
   .have j9:(i:Int)<(L.length:Int):=A7;have n1:i<R.length:=A7;have o2:(i:Int)<(R.length:Int):=A7;obtain⟨C,D,B,_,_,_⟩:=n.o.kn.pack.at n.o.kn.own n1;obtain⟨q,X⟩:=ai (L.getD i Qz.zero);rw[LV a6.o F,<-X] at B;have t0:=B 0 _ rfl;have t1:=B 1 _ rfl;have t5:=B 5 _ rfl;rw[OJ] at t0;have g4:=Kz (Hw c5 a6.o T.o.good);have k0:Hid ((Q_ Kj q.name).isSome=true):=g2.o.web _ _ (gJ T.o.nd (by rw[X];exact kH F));have HQ:=Kz X;clear B X;go_wp2_with fail
    refine (IV wr p a cap Kj (some ⟨g,0,none⟩) r R q.name A7 A7 k9 c5 k8 g4.o k0.o n.o.kn.known (hN.kept n.o.kn.kw) n.o.kn.runs).mono ?_;rintro e w3 ⟨⟨kk,xa,xc,qa,qc,rfl,g5,k2,⟨g6,k3,g7⟩,_⟩,g8⟩;obtain⟨m,d4⟩:=ai ((aJ (Q_ Kj) (Qj R) q.name kk).1);obtain⟨Q,d5⟩:=ai ((aJ (Q_ Kj) (Qj R) q.name kk).2);have c7:Hid (∀b':Bool,b'= (b || decide (m.Zj≠q.Zj) || decide (m.over≠q.over))->lQ Kj L (dh (Q_ Kj) R Q) (x.set i m) (i+1) b'):=λb' a8=>by
     rw[d4,d5];rw[d4] at a8;exact a6.o.next g2.o F (by rw[HQ.o]) g5 k2 (by rw[<-HQ.o];exact a8)
    have g9:Hid (Q.length<=110):=by show Q.length<=110;rw[d5];exact KL c5 g4.o k0.o g5
    rw[<-d4,<-d5];rw[<-d4] at g6;rw[<-d5] at g7;obtain⟨Y,d6⟩:=ai (w3.alloc (.cells #[.string m.name,.bool m.over,.bool m.fail,.string m.text,.a m.at',.a m.Zj,.slice xa m.texts.length xc] 40));have k4:K_ w3 Y:=by rw[d6];exact ah _ _
    obtain⟨pb,d8⟩:=ai w3.heap.size;have b1:Hid (Y.rangeAt pb 0 (m.cells xa xc)):=by
     have h:=Xz w3 #[.string m.name,.bool m.over,.bool m.fail,.string m.text,.a m.at',.a m.Zj,.slice xa m.texts.length xc] 40;rw[<-d6,<-d8] at h;exact λj u hu=>h j u hu
    have h0:pb<Y.heap.size:=by rw[d6,d8];simp
    have o3:wr.heap.size<=pb:=by rw[d8];exact g8.size
    have K4:=g8.trans k4;have b2:=Kz (n.o.kept K4);have c8:=Kz (g6.but (But.au (S:=λ_=>False) k4) (λ_ e=>e.elim));have c9:=Kz (g7.but (But.au (S:=λ_=>False) k4) (λ_ e=>e.elim));have h1:=Kz k3;have p1:Y.cell? ⟨pb,1,none⟩=some (.bool m.over):=by have:=b1.o 1 _ rfl;rw[Ow] at this;exact this
    have p5:Y.cell? ⟨pb,5,none⟩=some (.a m.Zj):=by have:=b1.o 5 _ rfl;rw[Ow] at this;exact this
    have h3:=b2.o.kn.known.runs;have o4:=b2.o.kn.known.row.lt;have o5:g<Y.heap.size:=NR Z K4.size;have s1:=(K4.cell Z).trans t1;have s5:=(K4.cell Z).trans t5;simp only[Qz.cells];clear g6 g7 k3 g5 k2 d4 d5 t0 t1 t5 U n g4;go_upto_region 12 with fail
    rw[<-d6,<-d8];clear d6 d8 g8 k4 K4;cases b
    .by_cases hv:m.Zj=q.Zj
     .have n2:(m.Zj != q.Zj)=false:=by simp[hv]
      have d9:=Kz (c7.o (!m.over == q.over) (by rw[hv];cases m.over <;> cases q.over <;> simp));clear hv c7;go_region
      obtain⟨k,a0⟩:=ai Y.drew;rw[<-a0];have z:K_ Y k:=by rw[a0];exact (bD _)
      have d:=Kz (b2.o.kept z);obtain⟨f,E⟩:=ai (m.cells xa xc);have e0:=Kz E;have b3:Hid (k.rangeAt pb 0 f):=λj u hu=>by rw[E] at hu;exact (z.cell h0).trans (b1.o j u hu)
      have b4:Hid ((prog.info? 40).map (·.size)=some f.length):=by rw[E];exact Tryz.kQ
      have b5:Hid ((prog.info? 40).map (·.size)=some f.toArray.size):=by rw[E];exact Tryz.kQ
      have O:Hid (k.there c (i*7) f.toArray.size):=by
       obtain⟨_,_,_,_,_,h⟩:=d.o.pack.at d.o.own (i:=i) (by rw[W];exact F);rw[E];exact h
      have a7:Hid (f.toArray.all (·.oneCell')=true):=by rw[E];exact all_oneCell_toArray (Qz.one m xa xc)
      have e1:c<k.heap.size:=(d.o.own.lt c rfl).2;clear E a0;go_upto_region 14 with (first | (refine wpList_load_mid rfl 40 (.tmp 10) rfl pb 0 rfl f _ b3.o underlying40 rfl b4.o ?_) | (refine wpList_store_mid rfl 40 (.tmp 79) (.tmp 78) rfl c (i*7) f.toArray rfl rfl O.o b5.o a7.o ?_;rw[List.toList_toArray]))
      obtain⟨A,H⟩:=ai (k.setCells c (i*7) f);rw[<-H];have a1:But (λb=>b=c) k A:=by rw[H];exact iI f (i*7) k
      have a2:∀b,b=c->¬bf k b 9:=λb e=>by rw[e];exact dK d.o.own c rfl
      have P:Hid (KnZ w A A p (.b g R.length r) a Kj.length cap R (some ⟨g,0,none⟩) r s):=by rw[H];exact d.o.kn.other d.o.own g3 d.o.ne (i*7) f
      have a3:Hid (A.ownsRow w.heap.size 40 7 (.b c L.length V) L.length (ovr J (i*7) f)):=by rw[H];exact pM f (i*7) d.o.own
      have b6:Hid (cK A (ovr J (i*7) f) (x.set i m)):=by
       rw[e0.o];refine (d.o.pack.set (by rw[W];exact F) (c8.o.but (But.au (S:=λ_=>False) z) (λ_ e=>e.elim)) h1.o).but a1 a2
      have b7:Hid (fA A 9 qa Q):=(c9.o.but (But.au (S:=λ_=>False) z) (λ_ e=>e.elim)).but a1 a2;have k5:c<A.heap.size:=(a3.o.lt c rfl).2;have a4:Hid (∀b,(b=p\/(Value.slice (some ⟨g,0,none⟩) R.length r).ownBlock=some b)->¬bf A b 9):=λb e=>by
       rcases e with e|e
       .rw[e];exact λht=>aK P.o.known.row.type ht A8 rfl
       .exact dK P.o.own b e
      have b8:=Kz d.o.ne;have e3:Hid (p≠c):=Dy d.o.kn.known d.o.own;clear H a1 a2 d b2 b3 b4 b5 O a7 c8 c9 b1 e1 z p1 p5 h3 s1 s5;go_wp2_with fail
      refine (qP w A p d2 a cap Kj qa qc Q R (some ⟨g,0,none⟩) r s A7 g9.o A7 P.o hN (b7.o.nst a4.o)).mono ?_;rintro e w7 ⟨rfl,d7,b9,c0,I⟩;have e4:Hid (vO w w7 p a Kj.length cap L (dh (Q_ Kj) R Q) (x.set i m) d7 b9 c0 c V (ovr J (i*7) f)):=by
       refine⟨I.again,I.fr.owns a3.o (λb e=>?_),b6.o.but I.fr a4.o,λe=>?_⟩
       .simp only[Value.ownBlock,OE] at e;subst e;rintro (h|h)
        .exact e3.o h.symm
        .exact b8.o h
       .rcases I.nw c e with h|h
        .exact b8.o h
        .omega
      clear I P a3 b6 b7 a4;go_wp2
      go_roundw
      case rel=>exact⟨i+1,_,dh (Q_ Kj) R Q,x.set i m,d7,b9,c0,_,A7,C8,rfl,d9,e4⟩
      case measure=>simp[intOf];omega
     .have n2:(m.Zj != q.Zj)=true:=by simp[hv]
      have d9:=Kz (c7.o true (by simp[hv]));clear hv c7;go_region
      obtain⟨k,a0⟩:=ai Y.drew;rw[<-a0];have z:K_ Y k:=by rw[a0];exact (bD _)
      have d:=Kz (b2.o.kept z);obtain⟨f,E⟩:=ai (m.cells xa xc);have e0:=Kz E;have b3:Hid (k.rangeAt pb 0 f):=λj u hu=>by rw[E] at hu;exact (z.cell h0).trans (b1.o j u hu)
      have b4:Hid ((prog.info? 40).map (·.size)=some f.length):=by rw[E];exact Tryz.kQ
      have b5:Hid ((prog.info? 40).map (·.size)=some f.toArray.size):=by rw[E];exact Tryz.kQ
      have O:Hid (k.there c (i*7) f.toArray.size):=by
       obtain⟨_,_,_,_,_,h⟩:=d.o.pack.at d.o.own (i:=i) (by rw[W];exact F);rw[E];exact h
      have a7:Hid (f.toArray.all (·.oneCell')=true):=by rw[E];exact all_oneCell_toArray (Qz.one m xa xc)
      have e1:c<k.heap.size:=(d.o.own.lt c rfl).2;clear E a0;go_upto_region 14 with (first | (refine wpList_load_mid rfl 40 (.tmp 10) rfl pb 0 rfl f _ b3.o underlying40 rfl b4.o ?_) | (refine wpList_store_mid rfl 40 (.tmp 79) (.tmp 78) rfl c (i*7) f.toArray rfl rfl O.o b5.o a7.o ?_;rw[List.toList_toArray]))
      obtain⟨A,H⟩:=ai (k.setCells c (i*7) f);rw[<-H];have a1:But (λb=>b=c) k A:=by rw[H];exact iI f (i*7) k
      have a2:∀b,b=c->¬bf k b 9:=λb e=>by rw[e];exact dK d.o.own c rfl
      have P:Hid (KnZ w A A p (.b g R.length r) a Kj.length cap R (some ⟨g,0,none⟩) r s):=by rw[H];exact d.o.kn.other d.o.own g3 d.o.ne (i*7) f
      have a3:Hid (A.ownsRow w.heap.size 40 7 (.b c L.length V) L.length (ovr J (i*7) f)):=by rw[H];exact pM f (i*7) d.o.own
      have b6:Hid (cK A (ovr J (i*7) f) (x.set i m)):=by
       rw[e0.o];refine (d.o.pack.set (by rw[W];exact F) (c8.o.but (But.au (S:=λ_=>False) z) (λ_ e=>e.elim)) h1.o).but a1 a2
      have b7:Hid (fA A 9 qa Q):=(c9.o.but (But.au (S:=λ_=>False) z) (λ_ e=>e.elim)).but a1 a2;have k5:c<A.heap.size:=(a3.o.lt c rfl).2;have a4:Hid (∀b,(b=p\/(Value.slice (some ⟨g,0,none⟩) R.length r).ownBlock=some b)->¬bf A b 9):=λb e=>by
       rcases e with e|e
       .rw[e];exact λht=>aK P.o.known.row.type ht A8 rfl
       .exact dK P.o.own b e
      have b8:=Kz d.o.ne;have e3:Hid (p≠c):=Dy d.o.kn.known d.o.own;clear H a1 a2 d b2 b3 b4 b5 O a7 c8 c9 b1 e1 z p1 p5 h3 s1 s5;go_wp2_with fail
      refine (qP w A p d2 a cap Kj qa qc Q R (some ⟨g,0,none⟩) r s A7 g9.o A7 P.o hN (b7.o.nst a4.o)).mono ?_;rintro e w7 ⟨rfl,d7,b9,c0,I⟩;have e4:Hid (vO w w7 p a Kj.length cap L (dh (Q_ Kj) R Q) (x.set i m) d7 b9 c0 c V (ovr J (i*7) f)):=by
       refine⟨I.again,I.fr.owns a3.o (λb e=>?_),b6.o.but I.fr a4.o,λe=>?_⟩
       .simp only[Value.ownBlock,OE] at e;subst e;rintro (h|h)
        .exact e3.o h.symm
        .exact b8.o h
       .rcases I.nw c e with h|h
        .exact b8.o h
        .omega
      clear I P a3 b6 b7 a4;go_wp2
      go_roundw
      case rel=>exact⟨i+1,_,dh (Q_ Kj) R Q,x.set i m,d7,b9,c0,_,A7,C8,rfl,d9,e4⟩
      case measure=>simp[intOf];omega
    .have d9:=Kz (c7.o true A9);clear c7;go_region
     obtain⟨k,a0⟩:=ai Y.drew;rw[<-a0];have z:K_ Y k:=by rw[a0];exact (bD _)
     have d:=Kz (b2.o.kept z);obtain⟨f,E⟩:=ai (m.cells xa xc);have e0:=Kz E;have b3:Hid (k.rangeAt pb 0 f):=λj u hu=>by rw[E] at hu;exact (z.cell h0).trans (b1.o j u hu)
     have b4:Hid ((prog.info? 40).map (·.size)=some f.length):=by rw[E];exact Tryz.kQ
     have b5:Hid ((prog.info? 40).map (·.size)=some f.toArray.size):=by rw[E];exact Tryz.kQ
     have O:Hid (k.there c (i*7) f.toArray.size):=by
      obtain⟨_,_,_,_,_,h⟩:=d.o.pack.at d.o.own (i:=i) (by rw[W];exact F);rw[E];exact h
     have a7:Hid (f.toArray.all (·.oneCell')=true):=by rw[E];exact all_oneCell_toArray (Qz.one m xa xc)
     have e1:c<k.heap.size:=(d.o.own.lt c rfl).2;clear E a0;go_upto_region 14 with (first | (refine wpList_load_mid rfl 40 (.tmp 10) rfl pb 0 rfl f _ b3.o underlying40 rfl b4.o ?_) | (refine wpList_store_mid rfl 40 (.tmp 79) (.tmp 78) rfl c (i*7) f.toArray rfl rfl O.o b5.o a7.o ?_;rw[List.toList_toArray]))
     obtain⟨A,H⟩:=ai (k.setCells c (i*7) f);rw[<-H];have a1:But (λb=>b=c) k A:=by rw[H];exact iI f (i*7) k
     have a2:∀b,b=c->¬bf k b 9:=λb e=>by rw[e];exact dK d.o.own c rfl
     have P:Hid (KnZ w A A p (.b g R.length r) a Kj.length cap R (some ⟨g,0,none⟩) r s):=by rw[H];exact d.o.kn.other d.o.own g3 d.o.ne (i*7) f
     have a3:Hid (A.ownsRow w.heap.size 40 7 (.b c L.length V) L.length (ovr J (i*7) f)):=by rw[H];exact pM f (i*7) d.o.own
     have b6:Hid (cK A (ovr J (i*7) f) (x.set i m)):=by
      rw[e0.o];refine (d.o.pack.set (by rw[W];exact F) (c8.o.but (But.au (S:=λ_=>False) z) (λ_ e=>e.elim)) h1.o).but a1 a2
     have b7:Hid (fA A 9 qa Q):=(c9.o.but (But.au (S:=λ_=>False) z) (λ_ e=>e.elim)).but a1 a2;have k5:c<A.heap.size:=(a3.o.lt c rfl).2;have a4:Hid (∀b,(b=p\/(Value.slice (some ⟨g,0,none⟩) R.length r).ownBlock=some b)->¬bf A b 9):=λb e=>by
      rcases e with e|e
      .rw[e];exact λht=>aK P.o.known.row.type ht A8 rfl
      .exact dK P.o.own b e
     have b8:=Kz d.o.ne;have e3:Hid (p≠c):=Dy d.o.kn.known d.o.own;clear H a1 a2 d b2 b3 b4 b5 O a7 c8 c9 b1 e1 z p1 p5 h3 s1 s5;go_wp2_with fail
     refine (qP w A p d2 a cap Kj qa qc Q R (some ⟨g,0,none⟩) r s A7 g9.o A7 P.o hN (b7.o.nst a4.o)).mono ?_;rintro e w7 ⟨rfl,d7,b9,c0,I⟩;have e4:Hid (vO w w7 p a Kj.length cap L (dh (Q_ Kj) R Q) (x.set i m) d7 b9 c0 c V (ovr J (i*7) f)):=by
      refine⟨I.again,I.fr.owns a3.o (λb e=>?_),b6.o.but I.fr a4.o,λe=>?_⟩
      .simp only[Value.ownBlock,OE] at e;subst e;rintro (h|h)
       .exact e3.o h.symm
       .exact b8.o h
      .rcases I.nw c e with h|h
       .exact b8.o h
       .omega
     clear I P a3 b6 b7 a4;go_wp2
     go_roundw
     case rel=>exact⟨i+1,_,dh (Q_ Kj) R Q,x.set i m,d7,b9,c0,_,A7,C8,rfl,d9,e4⟩
     case measure=>simp[intOf];omega
   .have k6:¬((i:Int)<(L.length:Int)):=A7;have n3:i=L.length:=A7;subst n3;have k7:((R.length:Int) > (L.length:Int))↔L.length<R.length:=A7;clear F hi;cases b
    .have n4:=k7;obtain⟨b',a8⟩:=ai ((false || decide (L.length<R.length)));have e5:=Kz (T.o.next c5 a6.o a8);have h4:Hid (Value.bool (decide (L.length<R.length))=Value.bool b'):=by show _=_;rw[a8];simp
     clear a8;go_wp2
     go_loopw [12] (λa9 wr=>∃(i:Nat) (M:List Qz) (s:List Pw),i<=L.length/\a9= .a (i:Int)/\Hid (M=x.take i++R.drop i)/\Hid (vO w wr p a Kj.length cap L M x (some ⟨g,0,none⟩) r s c V J)) (λa9 _=>L.length-(intOf a9).toNat)
     case atStart=>exact⟨0,R,s,NS _,rfl,by simp[Hid],n⟩
     case round=>
      clear n U zk Z;obtain⟨i,M,s,hi,rfl,HM,n⟩:=hrel;have c1:M.length=R.length:=by rw[HM.o,OD,Oo,List.length_drop];omega
      have U:=n.o.kn.known.runs;have zk:=n.o.kn.known.row.lt;have Z:g<wr.heap.size:=(n.o.kn.own.lt g rfl).2;by_cases F:i<L.length
      .have j9:(i:Int)<(L.length:Int):=A7;have n5:(i:Int)<(M.length:Int):=A7;have e6:i<M.length:=A7;have h5:=Kz c1;clear c1;obtain⟨C,D,B,c2,e7,_⟩:=n.o.pack.at n.o.own (i:=i) (by rw[W];exact F);obtain⟨_,_,_,_,_,e8⟩:=n.o.kn.pack.at n.o.kn.own e6;obtain⟨q,X⟩:=ai (x.getD i Qz.zero);rw[<-X] at B c2;have t0:=B 0 _ rfl;have t1:=B 1 _ rfl;have t2:=B 2 _ rfl;have t3:=B 3 _ rfl;have t4:=B 4 _ rfl;have t5:=B 5 _ rfl;have t6:=B 6 _ rfl;rw[OJ] at t0;have N:c<wr.heap.size:=(n.o.own.lt c rfl).2;have h6:Hid (M.set i q=x.take (i+1)++R.drop (i+1)):=by
        show _=_;have e9:i<x.length:=by rw[W];exact F
        have h7:(x.take i).length=i:=E9;have c1:=h5.o;rw[HM.o,List.set_append_right _ _ A7,h7,Nat.sub_self,Pb (l:=R) (i:=i) A7,List.set_cons_zero,NY e9,List.append_assoc,X];simp[List.getD,e9]
       have⟨h8,h9,O⟩:=fu c2 e7 e8;have i0:Hid (∀u,K_ wr u->J4 u p 1 (.b g M.length r)/\J4 u c (i*7) (.string q.name)/\J4 u c (i*7+1) (.bool q.over)/\J4 u c (i*7+2) (.bool q.fail)/\J4 u c (i*7+3) (.string q.text)/\J4 u c (i*7+4) (.a q.at')/\J4 u c (i*7+5) (.a q.Zj)/\J4 u c (i*7+6) (.slice C q.texts.length D)):=λu K=>⟨(K.cell zk).trans U,(K.cell N).trans t0,(K.cell N).trans t1,(K.cell N).trans t2,(K.cell N).trans t3,(K.cell N).trans t4,(K.cell N).trans t5,(K.cell N).trans t6⟩
       clear X B c2 e7 e8 t0 t1 t2 t3 t4 t5 t6;go_upto_region 19 with fail
       refine bn 10 i0.o λk z a5=>?_
       refine ax 0 a5 ?_;refine ax 4 a5 ?_;refine ae 8 a5 ?_;refine ae 9 a5 ?_;have d:=Kz (n.o.kept z);have f0:k.there g (i*7) 7:=λj hj=>⟨by rw[z.cell Z];exact (O.o j hj).1,(z.rules.2 g (i*7+j) Z).trans (O.o j hj).2⟩
       refine aF 10 (λK hK=>?_);refine wp_store_mid 40 _ _ rfl g (i*7) #[.string q.name,.bool q.over,.bool q.fail,.string q.text,.a q.at',.a q.Zj,.slice C q.texts.length D] D8 D8 f0 C9 (all_oneCell_toArray (Qz.one q C D)) ?_;refine af hK (λh=>Pg rfl h) ?_;clear hK K f0;refine aG ?_;have f1:Hid (KnZ w (k.setCells g (i*7) (q.cells C D)) (k.setCells g (i*7) (q.cells C D)) p (.b g (M.set i q).length r) a Kj.length cap (M.set i q) (some ⟨g,0,none⟩) r (ovr s (i*7) (q.cells C D))):=d.o.kn.over e6 (h8.o.but (But.au (S:=λ_=>False) z) (λ_ e=>e.elim)) h9.o;have c3:=iI (q.cells C D) (i*7) k (g:=g);have f2:Hid (vO w (k.setCells g (i*7) (q.cells C D)) p a Kj.length cap L (M.set i q) x (some ⟨g,0,none⟩) r (ovr s (i*7) (q.cells C D)) c V J):=by
        refine⟨f1.o,c3.owns d.o.own (λb e (e2:b=g)=>?_),d.o.pack.but c3 (λb e=>by rw[e];exact dK d.o.kn.own g rfl), ?_⟩
        .simp only[Value.ownBlock,OE] at e;exact d.o.ne (by simp only[Value.ownBlock,OE];omega)
        .have h:=d.o.ne;simpa[Value.ownBlock] using h
       obtain⟨W9,c4⟩:=ai (k.setCells g (i*7) (q.cells C D));have f3:k.setCells g (i*7) [.string q.name,.bool q.over,.bool q.fail,.string q.text,.a q.at',.a q.Zj,.slice C q.texts.length D]=W9:=c4.symm;rw[f3];rw[<-c4] at f2;clear c4 f3 f1 c3 d n z U a5;go_wp2
       go_roundw
       case rel=>exact⟨i+1,M.set i q,_,A7,C8,h6,f2⟩
       case measure=>simp[intOf];omega
      .have k6:¬((i:Int)<(L.length:Int)):=A7;have i1:Hid (M=x++R.drop L.length):=by
        show _=_;rw[HM.o,show i=L.length by omega,<-W,Ox]
       clear F;go_wp2
       go_roundg (if b'=true then cZ (Kj.map (·.name)) (Qj (x++R.drop L.length))+1 else 0)
       case measure=>exact e5.o.2
       case rel=>exact⟨b',M,some ⟨g,0,none⟩,r,s,h4.o,by rw[i1.o];exact e5.o.1,n.o.kn⟩
    .have n4:=k7;obtain⟨b',a8⟩:=ai ((true || decide (L.length<R.length)));have e5:=Kz (T.o.next c5 a6.o a8);have h4:Hid (Value.bool true=Value.bool b'):=by rw[a8];rfl
     clear a8;go_wp2
     go_loopw [12] (λa9 wr=>∃(i:Nat) (M:List Qz) (s:List Pw),i<=L.length/\a9= .a (i:Int)/\Hid (M=x.take i++R.drop i)/\Hid (vO w wr p a Kj.length cap L M x (some ⟨g,0,none⟩) r s c V J)) (λa9 _=>L.length-(intOf a9).toNat)
     case atStart=>exact⟨0,R,s,NS _,rfl,by simp[Hid],n⟩
     case round=>
      clear n U zk Z;obtain⟨i,M,s,hi,rfl,HM,n⟩:=hrel;have c1:M.length=R.length:=by rw[HM.o,OD,Oo,List.length_drop];omega
      have U:=n.o.kn.known.runs;have zk:=n.o.kn.known.row.lt;have Z:g<wr.heap.size:=(n.o.kn.own.lt g rfl).2;by_cases F:i<L.length
      .have j9:(i:Int)<(L.length:Int):=A7;have n5:(i:Int)<(M.length:Int):=A7;have e6:i<M.length:=A7;have h5:=Kz c1;clear c1;obtain⟨C,D,B,c2,e7,_⟩:=n.o.pack.at n.o.own (i:=i) (by rw[W];exact F);obtain⟨_,_,_,_,_,e8⟩:=n.o.kn.pack.at n.o.kn.own e6;obtain⟨q,X⟩:=ai (x.getD i Qz.zero);rw[<-X] at B c2;have t0:=B 0 _ rfl;have t1:=B 1 _ rfl;have t2:=B 2 _ rfl;have t3:=B 3 _ rfl;have t4:=B 4 _ rfl;have t5:=B 5 _ rfl;have t6:=B 6 _ rfl;rw[OJ] at t0;have N:c<wr.heap.size:=(n.o.own.lt c rfl).2;have h6:Hid (M.set i q=x.take (i+1)++R.drop (i+1)):=by
        show _=_;have e9:i<x.length:=by rw[W];exact F
        have h7:(x.take i).length=i:=E9;have c1:=h5.o;rw[HM.o,List.set_append_right _ _ A7,h7,Nat.sub_self,Pb (l:=R) (i:=i) A7,List.set_cons_zero,NY e9,List.append_assoc,X];simp[List.getD,e9]
       have⟨h8,h9,O⟩:=fu c2 e7 e8;have i0:Hid (∀u,K_ wr u->J4 u p 1 (.b g M.length r)/\J4 u c (i*7) (.string q.name)/\J4 u c (i*7+1) (.bool q.over)/\J4 u c (i*7+2) (.bool q.fail)/\J4 u c (i*7+3) (.string q.text)/\J4 u c (i*7+4) (.a q.at')/\J4 u c (i*7+5) (.a q.Zj)/\J4 u c (i*7+6) (.slice C q.texts.length D)):=λu K=>⟨(K.cell zk).trans U,(K.cell N).trans t0,(K.cell N).trans t1,(K.cell N).trans t2,(K.cell N).trans t3,(K.cell N).trans t4,(K.cell N).trans t5,(K.cell N).trans t6⟩
       clear X B c2 e7 e8 t0 t1 t2 t3 t4 t5 t6;go_upto_region 19 with fail
       refine bn 10 i0.o λk z a5=>?_
       refine ax 0 a5 ?_;refine ax 4 a5 ?_;refine ae 8 a5 ?_;refine ae 9 a5 ?_;have d:=Kz (n.o.kept z);have f0:k.there g (i*7) 7:=λj hj=>⟨by rw[z.cell Z];exact (O.o j hj).1,(z.rules.2 g (i*7+j) Z).trans (O.o j hj).2⟩
       refine aF 10 (λK hK=>?_);refine wp_store_mid 40 _ _ rfl g (i*7) #[.string q.name,.bool q.over,.bool q.fail,.string q.text,.a q.at',.a q.Zj,.slice C q.texts.length D] D8 D8 f0 C9 (all_oneCell_toArray (Qz.one q C D)) ?_;refine af hK (λh=>Pg rfl h) ?_;clear hK K f0;refine aG ?_;have f1:Hid (KnZ w (k.setCells g (i*7) (q.cells C D)) (k.setCells g (i*7) (q.cells C D)) p (.b g (M.set i q).length r) a Kj.length cap (M.set i q) (some ⟨g,0,none⟩) r (ovr s (i*7) (q.cells C D))):=d.o.kn.over e6 (h8.o.but (But.au (S:=λ_=>False) z) (λ_ e=>e.elim)) h9.o;have c3:=iI (q.cells C D) (i*7) k (g:=g);have f2:Hid (vO w (k.setCells g (i*7) (q.cells C D)) p a Kj.length cap L (M.set i q) x (some ⟨g,0,none⟩) r (ovr s (i*7) (q.cells C D)) c V J):=by
        refine⟨f1.o,c3.owns d.o.own (λb e (e2:b=g)=>?_),d.o.pack.but c3 (λb e=>by rw[e];exact dK d.o.kn.own g rfl), ?_⟩
        .simp only[Value.ownBlock,OE] at e;exact d.o.ne (by simp only[Value.ownBlock,OE];omega)
        .have h:=d.o.ne;simpa[Value.ownBlock] using h
       obtain⟨W9,c4⟩:=ai (k.setCells g (i*7) (q.cells C D));have f3:k.setCells g (i*7) [.string q.name,.bool q.over,.bool q.fail,.string q.text,.a q.at',.a q.Zj,.slice C q.texts.length D]=W9:=c4.symm;rw[f3];rw[<-c4] at f2;clear c4 f3 f1 c3 d n z U a5;go_wp2
       go_roundw
       case rel=>exact⟨i+1,M.set i q,_,A7,C8,h6,f2⟩
       case measure=>simp[intOf];omega
      .have k6:¬((i:Int)<(L.length:Int)):=A7;have i1:Hid (M=x++R.drop L.length):=by
        show _=_;rw[HM.o,show i=L.length by omega,<-W,Ox]
       clear F;go_wp2
       go_roundg (if b'=true then cZ (Kj.map (·.name)) (Qj (x++R.drop L.length))+1 else 0)
       case measure=>exact e5.o.2
       case rel=>exact⟨b',M,some ⟨g,0,none⟩,r,s,h4.o,by rw[i1.o];exact e5.o.1,n.o.kn⟩
