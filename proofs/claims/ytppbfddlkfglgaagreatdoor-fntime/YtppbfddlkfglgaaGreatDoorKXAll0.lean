import Derived.Test.YtppbfddlkfglgaaGreatDoorKBApp
import Derived.Test.YtppbfddlkfglgaaGreatDoorKXWantZ
set_option maxRecDepth 100000
set_option maxHeartbeats 25600000
namespace Go.Proofs.YtppbfddlkfglgaaGreatDoor
open Go.RowKit Go.Proofs.Tryz
structure AgM (w0 wr:QX)(rb zb ab:Nat)(cost:Int)(sa:QW)(sn sc:Nat)(r:Q_)(xa:QW)(xc:Nat)(qv:QY)(L:List QV):Prop where
 kw:K_ w0 wr
 box:wh wr rb r xa xc
 res:aH wr zb 59 7
 act:aH wr ab 62 2
 a0:wr.cell? ⟨ab,0,none⟩=some (.b cost)
 a1:wr.cell? ⟨ab,1,none⟩=some (.slice sa sn sc)
 rl:w0.heap.size<=rb
 zl:w0.heap.size<=zb
 al:w0.heap.size<=ab
 rz:rb≠zb
 txt:wr.ownsRow w0.heap.size 9 1 (.slice xa r.texts.length xc) r.texts.length (r.texts.map Value.string)
 ask:wr.ownsRow w0.heap.size 9 1 qv L.length (L.map Value.string)
 sep:∀x,(Value.slice xa r.texts.length xc).ownBlock=some x->qv.ownBlock≠some x
section
variable {w0 wr w':QX}{rb zb ab:Nat}{cost:Int}{sa:QW}{sn sc:Nat}{r r':Q_}{xa xa':QW}{xc xc':Nat}{qv qv':QY}{L:List QV}
theorem AgM.kept(h:AgM w0 wr rb zb ab cost sa sn sc r xa xc qv L)(k:K_ wr w'):AgM w0 w' rb zb ab cost sa sn sc r xa xc qv L:=
 ⟨h.kw.trans k,h.box.kept k,h.res.kept k,h.act.kept k,(k.cell h.act.lt).trans h.a0,(k.cell h.act.lt).trans h.a1,h.rl,h.zl,h.al,h.rz,ay h.txt k,ay h.ask k,h.sep⟩
theorem AgM.ar(h:AgM w0 wr rb zb ab cost sa sn sc r xa xc qv L):ab≠rb:=aN h.act.type h.box.row.type A8
theorem AgM.put(h:AgM w0 wr rb zb ab cost sa sn sc r xa xc qv L){o:Nat}{v:QY}(f:o<7)(e:r'.cells xa xc= (r.cells xa xc).set o v)(c:r'.texts=r.texts):AgM w0 (wr.setCell ⟨rb,o,none⟩ v) rb zb ab cost sa sn sc r' xa xc qv L:=by
 have a:But (λb=>b=rb) wr (wr.setCell ⟨rb,o,none⟩ v):=But.set (S:=λb=>b=rb) (But.ak (K_.refl _)) (p:=⟨rb,o,none⟩) rfl v;have d:∀{b:Nat},bu wr b 9->¬b=rb:=λi e=>aN i h.box.row.type A8 e
 refine⟨Below.setCell h.kw (p:=⟨rb,o,none⟩) h.rl v,h.box.put f e,a.row h.res λe=>h.rz e.symm,a.row h.act h.ar,(a.cell h.act.lt h.ar).trans h.a0,(a.cell h.act.lt h.ar).trans h.a1,h.rl,h.zl,h.al,h.rz,?_,a.owns h.ask λb e=>d (Y_ h.ask e),by rw[c];exact h.sep⟩;rw[c];exact a.owns h.txt λb e=>d (Y_ h.txt e)
theorem AgM.texts(h:AgM w0 wr rb zb ab cost sa sn sc r xa xc qv L){w1:QX}{l:List QV}(m:w1.ownsRow w0.heap.size 9 1 (.slice xa' (r.texts.length+l.length) xc') (r.texts.length+l.length) (r.texts.map Value.string++l.map Value.string))(v:wr.grownBy w1 (Value.slice xa r.texts.length xc).ownBlock)(w:∀g,(Value.slice xa' (r.texts.length+l.length) xc').ownBlock=some g->(Value.slice xa r.texts.length xc).ownBlock=some g\/wr.heap.size<=g):
  AgM w0 (w1.setCell ⟨rb,6,none⟩ (.slice xa' (r.texts.length+l.length) xc')) rb zb ab cost sa sn sc {r with texts:=r.texts++l} xa' xc' qv L:=by
 have a:But (λb=>(Value.slice xa r.texts.length xc).ownBlock=some b) wr w1:=But.aI v λb e=>e;have c:∀{b:Nat}{u:TypeId},bu wr b u->u≠9->¬(Value.slice xa r.texts.length xc).ownBlock=some b:=λf y e=>aN f (Y_ h.txt e) y rfl
 have i:=a.row h.box.row (c h.box.row.type A8);have z:w1.rangeAt rb 0 (r.cells xa xc):=a.range h.box.row (c h.box.row.type A8) h.box.rng;have A:=a.row h.res (c h.res.type A8);have j:=a.row h.act (c h.act.type A8);have B:=(a.cell h.act.lt (c h.act.type A8) (o:=0)).trans h.a0;have C:=(a.cell h.act.lt (c h.act.type A8) (o:=1)).trans h.a1;have n:=a.owns h.ask λb e k=>h.sep b k e;have D:K_ w0 w1:=a.kept h.kw λb e=>(h.txt.lt b e).1;have d:But (λb=>b=rb) w1 (w1.setCell ⟨rb,6,none⟩ (.slice xa' (r.texts.length+l.length) xc')):=But.set (S:=λb=>b=rb) (But.ak (K_.refl _)) (p:=⟨rb,6,none⟩) rfl _;have q:∀{b:Nat},bu w1 b 9->¬b=rb:=λf e=>aN f i.type A8 e
 have s:(r.texts++l).length=r.texts.length+l.length:=Qi;refine⟨Below.setCell D (p:=⟨rb,6,none⟩) h.rl _,⟨i.set _,?_⟩,d.row A λe=>h.rz e.symm,d.row j h.ar,(d.cell j.lt h.ar).trans B,(d.cell j.lt h.ar).trans C,h.rl,h.zl,h.al,h.rz,?_,d.owns n λb e=>q (Y_ n e),λx E t=>?_⟩
 .have k:Q_.cells {r with texts:=r.texts++l} xa' xc'= (r.cells xa xc).set 6 (.slice xa' (r.texts.length+l.length) xc'):=by
   unfold Q_.cells;simp
  rw[k];exact nR z i.row A7 _
 .show World.ownsRow _ _ _ _ (.slice xa' (r.texts++l).length xc') (r.texts++l).length ((r.texts++l).map Value.string);rw[s,QM];exact d.owns m λb e=>q (Y_ m e)
 .have F:(Value.slice xa' (r.texts.length+l.length) xc').ownBlock=some x:=by rw[<-s];exact E
  rcases w x F with g|g
  .exact h.sep x g t
  .have:=(h.ask.lt x t).2;omega
theorem AgM.asks(h:AgM w0 wr rb zb ab cost sa sn sc r xa xc qv L){w1:QX}{l:List QV}(j:w1.ownsRow w0.heap.size 9 1 qv' (L.length+l.length) (L.map Value.string++l.map Value.string))(k:wr.grownBy w1 qv.ownBlock)(m:∀g,qv'.ownBlock=some g->qv.ownBlock=some g\/wr.heap.size<=g):
  AgM w0 w1 rb zb ab cost sa sn sc r xa xc qv' (L++l):=by
 have a:But (λb=>qv.ownBlock=some b) wr w1:=But.aI k λb e=>e;have c:∀{b:Nat}{u:TypeId},bu wr b u->u≠9->¬qv.ownBlock=some b:=λn p e=>aN n (Y_ h.ask e) p rfl
 have d:=c h.act.type A8;have f:=c h.box.row.type A8;refine⟨a.kept h.kw λb e=>(h.ask.lt b e).1,⟨a.row h.box.row f,a.range h.box.row f h.box.rng⟩,a.row h.res (c h.res.type A8),a.row h.act d,(a.cell h.act.lt d).trans h.a0,(a.cell h.act.lt d).trans h.a1,h.rl,h.zl,h.al,h.rz,a.owns h.txt λb e q=>h.sep b e q,?_,λx i s=>?_⟩
 .rw[Qi,QM];exact j
 .rcases m x s with g|g
  .exact h.sep x i g
  .have:=(h.txt.lt x i).2;omega
end
def AJ(W:bf)(σ:Env)(name:QV)(w':QX)(e:Ending):Prop:=
 ∃(k:Nat)(xa:QW)(xc:Nat)(qa:QW)(qc:Nat),e=.returned (.tuple #[.agg ((aK W σ name k).1.cells xa xc).toArray,.slice qa (aK W σ name k).2.length qc])/\(∀j,j<k->bg W σ (aK W σ name j).1)/\¬bg W σ (aK W σ name k).1/\(eY w' 9 xa (aK W σ name k).1.texts/\(xa=none->xc=0)/\eY w' 9 qa (aK W σ name k).2)/\Strs w' qa (aK W σ name k).2
variable {σ:Env}{Kq:List Qz}
theorem mO(a:aX (Kk Kq))(b:dR Kq σ){n:QV}(c:(Kk Kq n).isSome=true):∀{k:Nat},(∀j,j<k->bg (Kk Kq) σ (aK (Kk Kq) σ n j).1)->(aK (Kk Kq) σ n k).1.Good Kq
 |0,_=>iD a c
 |k+1,h=>fK a b (mO a b c λj d=>h j A7) (h k A7)
theorem DT(d:aX (Kk Kq)){r:Q_}(k:dR Kq σ)(l:r.Good Kq)(f:bg (Kk Kq) σ r):(Xx (Kk Kq) σ r).2.length<=5:=by
 obtain⟨A,b,m,n⟩:=(fK d k l f).act;rw[dz] at b;have p:=(jU (d _ _ b).1 m n).1;by_cases a:(Xx (Kk Kq) σ r).2=[]
 .rw[a];simp
 .have e:(Xx (Kk Kq) σ r).2= (stepOf A (Xx (Kk Kq) σ r).1.at').asks:=by
   unfold Xx at a⊢;rw[b] at a⊢;simp only at a⊢;have ar:∀q:Q_,(gF A q).2= (stepOf A (gF A q).1.at').asks:=λq=>by
    unfold gF;simp only
    split<;>rfl
   by_cases c:r.Zq=0
   .rw[QI c];exact ar _
   .rw[QJ c] at a⊢;rcases f.2 with e|⟨v,s,h,t⟩
    .exact QK e c
    .rw[b] at h;cases h;rw[t] at a⊢;simp only at a⊢;by_cases i:r.Zq=20
     .rw[QI i] at a;exact QK rfl a
     .rw[QJ i] at a⊢;by_cases j:(fV (stepOf A r.at') s).over=true
      .rw[QI j] at a;exact QK rfl a
      .rw[QJ j];exact ar _
  rw[e];exact p
theorem rW(a:aX (Kk Kq))(b:dR Kq σ){n:QV}(c:(Kk Kq n).isSome=true):∀{k:Nat},(∀j,j<k->bg (Kk Kq) σ (aK (Kk Kq) σ n j).1)->(aK (Kk Kq) σ n k).2.length<=5*k
 |0,_=>Pw _
 |k+1,h=>by
  have e:=rW a b c (k:=k) λj d=>h j A7;have f:=DT a b (mO a b c λj d=>h j A7) (h k A7);show ((aK (Kk Kq) σ n k).2++(Xx (Kk Kq) σ (aK (Kk Kq) σ n k).1).2).length<=5*(k+1);rw[Qi];omega
theorem Cz(b:aX (Kk Kq))(c:dR Kq σ){n:QV}(a:(Kk Kq n).isSome=true){k:Nat}(h:∀j,j<k->bg (Kk Kq) σ (aK (Kk Kq) σ n j).1):k<=21:=by
 cases k with
 |zero=>omega
 |succ k=>
  have e:=gm a (k:=k) (λj d=>h j A7) (h k A7).1;have f:=(mO b c a (k:=k) λj d=>h j A7).hi;omega
theorem El{g:Nat}:∀(vs:List QY)(o:Nat){w u:QX},But (λb=>b=g) w u->But (λb=>b=g) w (u.setCells g o vs)
 |[],_,_,_,h=>h
 |v :: r,o,_,_,h=>by rw[World.setCells];exact El r (o+1) (h.set (p:=⟨g,o,none⟩) rfl v)
theorem AgM.ends{W:bf}{name:QV}{w0 wr:QX}{rb zb ab:Nat}{cost:Int}{sa:QW}{sn sc:Nat}{r:Q_}{xa:QW}{xc:Nat}{c:QW}{i d:Nat}{L:List QV}{k:Nat}{e:Ending}(h:AgM w0 wr rb zb ab cost sa sn sc r xa xc (.slice c i d) L)(a:aK W σ name k= (r,L))(q:∀j,j<k->bg W σ (aK W σ name j).1)(s:¬bg W σ r)(t:e=.returned (.tuple #[.agg (r.cells xa xc).toArray,.slice c i d])):AJ W σ name (wr.setCells zb 0 (r.cells xa xc)) e/\K_ w0 (wr.setCells zb 0 (r.cells xa xc)):=by
 have f:But (λb=>b=zb) wr (wr.setCells zb 0 (r.cells xa xc)):=El _ _ (But.ak (K_.refl _));have l:∀{b:Nat},bu wr b 9->¬b=zb:=λv e=>aN v h.res.type A8 e
 have m:=vG (f.owns h.txt λb e=>l (Y_ h.txt e));have n:=f.owns h.ask λb e=>l (Y_ h.ask e);obtain⟨y,z,p,w⟩:=dV n;simp only[Qm] at p;obtain⟨rfl,rfl,_⟩:=p;have x:=vG n;refine⟨⟨k,xa,xc,c,d,?_,q,?_,?_,?_⟩,f.kept h.kw λb e=>by rw[e];exact h.zl⟩
 .rw[a];exact t
 .rw[a];exact s
 .rw[a];exact⟨m.1,m.2.1,x.1⟩
 .rw[a];exact w
theorem AgM.start{w wc:QX}{zb ab:Nat}{cost:Int}{sa:QW}{sn sc:Nat}(name:QV)(c:K_ w wc)(f:aH wc zb 59 7)(d:aH wc ab 62 2)(i:wc.cell? ⟨ab,0,none⟩=some (.b cost))(j:wc.cell? ⟨ab,1,none⟩=some (.slice sa sn sc))(k:w.heap.size<=zb)(l:w.heap.size<=ab):
  AgM w ((wc.alloc (.cells #[.string name,.bool false,.bool false,.string ⟨#[]⟩,.b 0,.b 0,J6] 59)).alloc (.cells #[] 9)) wc.heap.size zb ab cost sa sn sc (Q_.fresh name) none 0 (.c (wc.heap.size+1) 0 0) []:=by
 have a:K_ wc (wc.alloc (.cells #[.string name,.bool false,.bool false,.string ⟨#[]⟩,.b 0,.b 0,J6] 59)):=ai _ _;have b:K_ (wc.alloc (.cells #[.string name,.bool false,.bool false,.string ⟨#[]⟩,.b 0,.b 0,J6] 59)) ((wc.alloc (.cells #[.string name,.bool false,.bool false,.string ⟨#[]⟩,.b 0,.b 0,J6] 59)).alloc (.cells #[] 9)):=ai _ _;have m:wh (wc.alloc (.cells #[.string name,.bool false,.bool false,.string ⟨#[]⟩,.b 0,.b 0,J6] 59)) wc.heap.size (Q_.fresh name) none 0:=⟨aH.made wc _ _,X_ wc _ _⟩;have h:=Qa (base:=w.heap.size) (e:=9) (size:=1) (wc.alloc (.cells #[.string name,.bool false,.bool false,.string ⟨#[]⟩,.b 0,.b 0,J6] 59)) #[] 0 (Pz c.size a.size) (Py _) rfl;rw[Qh] at h;exact⟨c.trans (a.trans b),m.kept b,f.kept (a.trans b),d.kept (a.trans b),((a.trans b).cell d.lt).trans i,((a.trans b).cell d.lt).trans j,c.size,k,l,by have:=f.lt;omega,Qt _ _ _ _,h,λx n=>by cases n⟩
theorem JB(w:QX)(kb:Nat)(a:QW)(cap:Nat)(Kq:List Qz)(d:QW)(dc:Nat)(l:List Q_)(name:QV)(j4:Kq.length<=1048576)(s1:l.length<=1048576)(h3:uW Kq)(j5:aX (Kk Kq))(n4:∀y∈Kq,y.Fits)(j6:dR Kq (Qq l))(h4:(Kk Kq name).isSome=true)(n:jA w kb a Kq.length cap d l.length dc)(hN:dS w a Kq)(hS:jD w d l):
  Calls prog 32 #[.h kb,.string name] w λe w'=>AJ (Kk Kq) (Qq l) name w' e/\K_ w w':=by
 obtain⟨y9,hA⟩:=PV.1 h4;obtain⟨c4,hk,j7,n5,rfl⟩:=iq hA;obtain⟨y,hy⟩:=aj (Kq.getD c4 Qz.zero);rw[<-hy] at hA j7;obtain⟨WB,h5⟩:=aj (w.alloc (.cells #[.string ⟨#[]⟩,.bool false,.bool false,.string ⟨#[]⟩,.b 0,.b 0,J6] 59));have kB:K_ w WB:=by rw[h5];exact ai _ _
 obtain⟨E,h6⟩:=aj w.heap.size;have n6:aH WB E 59 7:=by rw[h5,h6];exact aH.made w _ _
 have n7:Hid (w.heap.size<=E):=PY h6.symm;obtain⟨nb,nq,f,c5,h7,D,na,nc,rfl,j8⟩:=hN c4 hk;rw[<-hy] at D j8;have j9:nb<WB.heap.size:=Px h7 kB.size;have n8:=(kB.cell h7).trans (D 1 _ rfl);have n9:=(kB.cell h7).trans (D 2 _ rfl);subst c5;have s2:=Kz n;have k0:=Kz (n.kept kB);have k1:=Kz (hN.kept kB);have⟨s3,s4,k2,o0,o1⟩:=fQ hN hS j8 kB n6;have⟨HY,k3⟩:=aJ hy hA;have b0:=k0.o.web;have bz:=k0.o.row.lt;have e8:y∈Kq:=by rw[hy];simp[List.getD,hk]
 clear D j8 hy hA kB n6 n hN hS h7;go_enter func32,ntmps32
 go_upto_region 1 with fail
 rw[<-h5,<-h6];clear h5 h6;go_cut [6] from 14 to 27 λs5 wx=>∃V,s5=.h V/\K_ WB wx/\WB.heap.size<=V/\aH wx V 62 2/\wx.cell? ⟨V,0,none⟩=some (.b y.cost)/\wx.cell? ⟨V,1,none⟩=some (.slice na y.steps.length nc)
 case first=>
  have c6:Hid (∀w',K_ WB w'->w'.cell? ⟨kb,0,none⟩=some (.slice (some ⟨nb,nq,none⟩) Kq.length cap)/\w'.cell? ⟨nb,nq+c4*3+1,none⟩=some (.b y.cost)/\w'.cell? ⟨nb,nq+c4*3+2,none⟩=some (.slice na y.steps.length nc)):=λw' K=>⟨(K.cell bz).trans b0,(K.cell j9).trans n8,(K.cell j9).trans n9⟩
  have z0:(c4:Int)<(Kq.length:Int):=A7;refine bG 15 c6.o λwd KD X=>?_
  refine ax 0 X ?_;refine ax 4 X ?_;refine ae 8 X ?_;refine ae 9 X ?_;refine iX 10 14 (λK n=>?_) λK n=>?_
  .rw[QI D8];go_simp
   go_at_call 15
   refine (iY wd (some ⟨nb,nq,none⟩) cap Kq name j4 (k1.o.kept KD)).mono ?_;rintro e w2 ⟨⟨q,rfl,hq⟩,h8⟩;have K2:=KD.trans h8;obtain rfl:q= (c4:Int):=by
    rcases hq with⟨k',_,e',_,Y,h2⟩|⟨_,Y⟩
    .rw[e',oN (by rw[<-HY.o];exact j7) n5 Y h2]
    .rw[k3.o] at Y;cases Y
   clear hq;dsimp only;refine af n (λ_=>c6.o _ K2) ?_;clear n K;clear X;have X:=c6.o _ K2;refine ae 11 X ?_;refine ae 12 X ?_;refine ae 13 X ?_;refine au 14 λK n=>?_;go_simp
   have K3:K_ w2 (w2.alloc (.cells #[.b 0,J6] 62)):=ai _ _;refine af n (λ_=>c6.o _ (K2.trans K3)) ?_;clear n K;have a7:aH (w2.alloc (.cells #[.b 0,J6] 62)) w2.heap.size 62 2:=aH.made w2 _ _;have KE:=K2.trans K3;generalize s6:w2.alloc (.cells #[.b 0,J6] 62)=wE at a7 KE⊢;clear s6 K3;obtain⟨⟨_,v0⟩,s7⟩:=a7.row.at (i:=0) A7;obtain⟨⟨_,v1⟩,s8⟩:=a7.row.at (i:=1) A7;have vz:=a7.lt;refine au 15 λK n=>?_;go_simp
   refine af n (λh=>QK rfl h) ?_;clear n K;refine aF ?_;go_wp2
   go_meet
   exact⟨w2.heap.size,rfl,Below.setCell (Below.setCell KE (p:=⟨w2.heap.size,0,none⟩) K2.size _) (p:=⟨w2.heap.size,1,none⟩) K2.size _,K2.size,(a7.set _).set _,(Xk A7 _).trans (bB a7.row A7 _),bB (a7.set _).row A7 _⟩
  .rw[QI D8];go_simp
   have K3:K_ wd (wd.alloc (.cells #[.b 0,J6] 62)):=ai _ _;have k4:=KD.trans K3;refine af n (λ_=>c6.o _ k4) ?_;clear n K;refine aD 10 λK n=>?_;go_simp
   go_at_call 15
   refine (iY (wd.alloc (.cells #[.b 0,J6] 62)) (some ⟨nb,nq,none⟩) cap Kq name j4 (k1.o.kept k4)).mono ?_;rintro e w2 ⟨⟨q,rfl,hq⟩,h8⟩;have K2:=k4.trans h8;obtain rfl:q= (c4:Int):=by
    rcases hq with⟨k',_,e',_,Y,h2⟩|⟨_,Y⟩
    .rw[e',oN (by rw[<-HY.o];exact j7) n5 Y h2]
    .rw[k3.o] at Y;cases Y
   clear hq;dsimp only;refine af n (λ_=>c6.o _ K2) ?_;clear n K;clear X;have X:=c6.o _ K2;refine ae 11 X ?_;refine ae 12 X ?_;refine ae 13 X ?_;have a7:aH w2 wd.heap.size 62 2:=(aH.made wd #[.b 0,J6] 62).kept h8;obtain⟨⟨_,v0⟩,s7⟩:=a7.row.at (i:=0) A7;obtain⟨⟨_,v1⟩,s8⟩:=a7.row.at (i:=1) A7;have vz:=a7.lt;refine au 15 λK n=>?_;go_simp
   refine af n (λh=>QK rfl h) ?_;clear n K;refine aF ?_;go_wp2
   go_meet
   exact⟨wd.heap.size,rfl,Below.setCell (Below.setCell K2 (p:=⟨wd.heap.size,0,none⟩) KD.size _) (p:=⟨wd.heap.size,1,none⟩) KD.size _,KD.size,(a7.set _).set _,(Xk A7 _).trans (bB a7.row A7 _),bB (a7.set _).row A7 _⟩
 case rest=>
  obtain⟨V,rfl,Kx,o2,o3,c7,c8⟩:=hcut;have f2:=Kz (AgM.start name (o0.o.trans Kx) (o1.o.kept Kx) o3 c7 c8 n7.o (Pz o0.o.size o2));clear o2 o3 c7 c8 n8 n9 b0 bz j9 k0 k1 o1 Kx n7;go_upto_region 3 with fail
  obtain⟨c,k7⟩:=aj wc.heap.size;have o4:(wc.alloc (.cells #[.string name,.bool false,.bool false,.string ⟨#[]⟩,.b 0,.b 0,J6] 59)).heap.size=c+1:=by rw[k7];simp
  rw[<-k7] at f2⊢;have k8:=Kz o4;clear o4;generalize s9:wc.alloc (.cells #[.string name,.bool false,.bool false,.string ⟨#[]⟩,.b 0,.b 0,J6] 59)=w1 at f2 k8⊢;clear s9 k7;go_wp2_with fail
  rw[k8.o];clear k8;generalize t8:w1.alloc (.cells #[] 9)=w2 at f2⊢;clear t8;go_loopg [8] 22 λgg x8 wr=>∃(J:Nat)(S:QW)(T:Nat)(qa:QW)(qc:Nat),x8=.slice qa (aK (Kk Kq) (Qq l) name J).2.length qc/\J+gg=22/\Hid (∀a3,a3<J->bg (Kk Kq) (Qq l) (aK (Kk Kq) (Qq l) name a3).1)/\Hid (AgM w wr c E V y.cost na y.steps.length nc (aK (Kk Kq) (Qq l) name J).1 S T (.slice qa (aK (Kk Kq) (Qq l) name J).2.length qc) (aK (Kk Kq) (Qq l) name J).2)
  case atStart=>exact⟨0,none,0,some ⟨c+1,0,none⟩,0,rfl,rfl,Kz λa3 hi=>aS hi,f2⟩
  case round=>
   clear f2;obtain⟨J,S,T,qa,qc,rfl,z1,d0,P⟩:=hrel;have c0:=Kz (mO j5 j6 h4 d0.o);have t9:=rW j5 j6 h4 d0.o;have k9:=Kz (mQ (W:=Kk Kq) (σ:=Qq l) (n:=name) J);obtain⟨r,hr⟩:=aj ((aK (Kk Kq) (Qq l) name J).1);obtain⟨L,hL⟩:=aj ((aK (Kk Kq) (Qq l) name J).2);rw[<-hr,<-hL] at P;rw[<-hr] at c0 k9;rw[<-hL] at t9⊢;have d1:Hid (aK (Kk Kq) (Qq l) name J= (r,L)):=by show _=_;rw[hr,hL]
   have b7:Hid (Kk Kq r.name=some ⟨y.cost,y.steps⟩):=by show _=_;rw[k9.o];exact k3.o
   have h9:Hid (aK (Kk Kq) (Qq l) name (J+1)= ((Xx (Kk Kq) (Qq l) r).1,L++(Xx (Kk Kq) (Qq l) r).2)):=by show _=_;unfold aK;rw[d1.o]
   clear hr hL k9;obtain⟨t,j,v,x,k,z,A⟩:=P.o.box.all;have i:=P.o.box.row.lt;by_cases i0:r.over=true
   .have c1:=Kz i0;clear t j v x k z A i;have j:wr.cell? ⟨c,1,none⟩=some (.bool true):=by have h:=P.o.box.all.2.1;rw[c1.o] at h;exact h
    have i:=P.o.box.row.lt;clear i0;go_upto_region 31 with fail
    clear j i;obtain⟨f,D⟩:=aj (Q_.cells (r) S T);have M:f.length=7:=by rw[D];rfl
    have d2:Hid (f.toArray.all (·.oneCell')=true):=by show _=_;rw[D];exact all_oneCell_toArray (by simp[Q_.cells,Value.oneCell'])
    have d3:Hid (wr.rangeAt c 0 f):=by show World.rangeAt _ _ _ _;rw[D];exact P.o.box.rng
    have i:=P.o.box.row.lt;have d4:Hid ((prog.info? 59).map (·.size)=some f.toArray.size):=by show _=_;rw[Tryz.ky];simp[M]
    have a8:Hid ((prog.info? 59).map (·.size)=some f.length):=by show _=_;rw[Tryz.ky,M]
    have a9:Hid (wr.there E 0 f.toArray.size):=by show World.there _ _ _ _;simpa[M] using P.o.res.row.there (o:=0) (m:=7) (Pw _)
    have⟨d5,l0⟩:=aJ D M;clear D M;go_wp2_with (first|(refine wpList_load_mid rfl 59 _ rfl c 0 rfl f _ d3.o underlying59 rfl a8.o ?_)|(refine wpList_store_mid rfl 59 _ _ rfl E 0 f.toArray rfl rfl a9.o d4.o d2.o ?_;rw[List.toList_toArray]))
    have hR:=PD wr E 0 f (by have:=a9.o;simpa using this);refine bX f _ _ results32 rfl hR underlying59 rfl a8.o rfl rfl ?_;have d6:=d5.o;subst d6;exact P.o.ends d1.o d0.o (λh=>by have Y:=h.1;rw[c1.o] at Y;cases Y) rfl
   have c1:Hid (r.over=false):=by cases h:r.over;rfl;exact QK h i0
   rw[c1.o] at j;clear i0;have lo:=c0.o.lo;have v8:=c0.o.hi;have tl:=c0.o.tl;obtain⟨c7,c8⟩:0<=r.at'/\r.at' < y.steps.length:=by
    obtain⟨v9,o5,Y,h2⟩:=c0.o.act;rw[b7.o] at o5;cases o5;exact⟨Y,h2⟩
   have z2:J<=20:=by have h:=gm h4 d0.o (by rw[d1.o];exact c1.o);rw[d1.o] at h;dsimp only at h;omega
   go_upto_if 36 with fail
   go_cut [9,10,11,12] from 36 to 87 λ_ _ _ _ wx=>∃(B:Q_)(b4:QW)(b8:Nat),Hid (AgM w wx c E V y.cost na y.steps.length nc B b4 b8 (.slice qa L.length qc) L)/\Hid (Xx (Kk Kq) (Qq l) r=gF ⟨y.cost,y.steps⟩ B)/\0<=B.at'/\B.at' < y.steps.length/\0<=B.Zq/\B.Zq<20/\B.texts.length<=200/\Hid (∀d7∈B.texts,d7.size<=200)/\Hid (bg (Kk Kq) (Qq l) r)
   case first=>
    by_cases hv:r.Zq=0
    .have w0:¬(0:Int)<r.Zq:=A7;have HV:=Kz hv;clear hv;go_wp2
     go_meet
     exact⟨r,S,T,P,Kz (by unfold Xx;rw[b7.o];simp[HV.o]),c7,c8,lo,A7,A7,Kz c0.o.ts,Kz ⟨c1.o,.inl HV.o⟩⟩
    .have z3:(0:Int)<r.Zq:=A7;obtain⟨ix,c2⟩:∃ix:Nat,r.at'= (ix:Int):=⟨r.at'.toNat,A7⟩;have f3:ix<y.steps.length:=A7;have w4:(ix:Int)<(y.steps.length:Int):=A7;obtain⟨tb,tq,w5,rfl,l1,Q,H,I,N,O,rfl,d8,f4,_⟩:=(Steps.kept k2.o P.o.kw) ix f3;obtain⟨s,hs⟩:=aj (y.steps.getD ix Xq.zero);rw[<-hs] at Q d8 f4;have t0:=Q 0 _ rfl;have t1:=Q 1 _ rfl;have t2:=Q 2 _ rfl;have t3:=Q 3 _ rfl;have t4:=Q 4 _ rfl;have t5:=Q 5 _ rfl;have t6:=Q 6 _ rfl;have t7:=Q 7 _ rfl;rw[Qp] at t0;have e9:s∈y.steps:=by rw[hs];simp[List.getD,f3]
     have o6:=(h3 y e8 s e9).1;have o7:=(h3 y e8 s e9).2;have i1:=n4 y e8;have b5:Hid (stepOf ⟨y.cost,y.steps⟩ r.at'=s):=by show _=_;unfold stepOf;rw[c2,hs];rfl
     have p1:=P.o.a1;have pz:=P.o.act.lt;rw[c2] at k;have f5:=Kz d8;clear Q d8 f4 hs;have z4:=Kz c2;clear c2;go_upto_region 7 with fail
     have kS:K_ wr (wr.alloc (.cells #[.slice H s.asks.length I,.b s.on,.slice N s.cases.length O,.b s.els,.b s.fall,.bool s.fin,.bool s.bad,.string s.give] 146)):=ai _ _;have f0:=Kz (P.o.kept kS);have l2:=Kz (f5.o.kept kS);have x0:(wr.alloc (.cells #[.slice H s.asks.length I,.b s.on,.slice N s.cases.length O,.b s.els,.b s.fall,.bool s.fin,.bool s.bad,.string s.give] 146)).rangeAt wr.heap.size 0 #[.slice H s.asks.length I,.b s.on,.slice N s.cases.length O,.b s.els,.b s.fall,.bool s.fin,.bool s.bad,.string s.give].toList:=X_ wr _ _;have v0:=X_ wr #[.slice H s.asks.length I,.b s.on,.slice N s.cases.length O,.b s.els,.b s.fall,.bool s.fin,.bool s.bad,.string s.give] 146 0 _ rfl;have v1:=X_ wr #[.slice H s.asks.length I,.b s.on,.slice N s.cases.length O,.b s.els,.b s.fall,.bool s.fin,.bool s.bad,.string s.give] 146 1 _ rfl;have v2:=X_ wr #[.slice H s.asks.length I,.b s.on,.slice N s.cases.length O,.b s.els,.b s.fall,.bool s.fin,.bool s.bad,.string s.give] 146 2 _ rfl;have v3:=X_ wr #[.slice H s.asks.length I,.b s.on,.slice N s.cases.length O,.b s.els,.b s.fall,.bool s.fin,.bool s.bad,.string s.give] 146 3 _ rfl;have v4:=X_ wr #[.slice H s.asks.length I,.b s.on,.slice N s.cases.length O,.b s.els,.b s.fall,.bool s.fin,.bool s.bad,.string s.give] 146 4 _ rfl;have v5:=X_ wr #[.slice H s.asks.length I,.b s.on,.slice N s.cases.length O,.b s.els,.b s.fall,.bool s.fin,.bool s.bad,.string s.give] 146 5 _ rfl;have v6:=X_ wr #[.slice H s.asks.length I,.b s.on,.slice N s.cases.length O,.b s.els,.b s.fall,.bool s.fin,.bool s.bad,.string s.give] 146 6 _ rfl;have v7:=X_ wr #[.slice H s.asks.length I,.b s.on,.slice N s.cases.length O,.b s.els,.b s.fall,.bool s.fin,.bool s.bad,.string s.give] 146 7 _ rfl;simp only[Qb] at v0 v1 v2 v3 v4 v5 v6 v7;have vz:wr.heap.size<(wr.alloc (.cells #[.slice H s.asks.length I,.b s.on,.slice N s.cases.length O,.b s.els,.b s.fall,.bool s.fin,.bool s.bad,.string s.give] 146)).heap.size:=A9;obtain⟨sb,d9⟩:=aj wr.heap.size;rw[<-d9] at v0 v1 v2 v3 v4 v5 v6 v7 vz⊢;generalize C:wr.alloc (.cells #[.slice H s.asks.length I,.b s.on,.slice N s.cases.length O,.b s.els,.b s.fall,.bool s.fin,.bool s.bad,.string s.give] 146)=w1 at f0 l2 v0 v1 v2 v3 v4 v5 v6 v7 vz⊢;clear C x0 kS d9 t0 t1 t2 t3 t4 t5 t6 t7 p1 pz P f5 j l1;clear t v x k z A i;go_wp2_with fail
     refine (En w1 kb (some ⟨nb,nq,none⟩) cap Kq d dc l s H N I O j4 s1 o6 o7 (s2.o.kept f0.o.kw) (s3.o.kept f0.o.kw) (s4.o.kept f0.o.kw) l2.o).mono ?_;rintro e w3 ⟨⟨o8,z5,o9,ok,rfl,l3,l4⟩,l5⟩;have G:=Kz (f0.o.kept l5);clear v0 v1 v2 v3 v4 v5 v6 v7 vz f0 l2;have p0:r.Zq≠0:=hv;have f6:=Kz p0;clear p0;cases ok
     .have x1:=Kz (l4 rfl);clear l3 l4 l5;go_upto_region 9 with fail
      obtain⟨f,D⟩:=aj (Q_.cells (r) S T);have M:f.length=7:=by rw[D];rfl
      have d2:Hid (f.toArray.all (·.oneCell')=true):=by show _=_;rw[D];exact all_oneCell_toArray (by simp[Q_.cells,Value.oneCell'])
      have d3:Hid (w3.rangeAt c 0 f):=by show World.rangeAt _ _ _ _;rw[D];exact G.o.box.rng
      have i:=G.o.box.row.lt;have d4:Hid ((prog.info? 59).map (·.size)=some f.toArray.size):=by show _=_;rw[Tryz.ky];simp[M]
      have a8:Hid ((prog.info? 59).map (·.size)=some f.length):=by show _=_;rw[Tryz.ky,M]
      have a9:Hid (w3.there E 0 f.toArray.size):=by show World.there _ _ _ _;simpa[M] using G.o.res.row.there (o:=0) (m:=7) (Pw _)
      have⟨d5,l0⟩:=aJ D M;clear D M;go_wp2_with (first|(refine wpList_load_mid rfl 59 _ rfl c 0 rfl f _ d3.o underlying59 rfl a8.o ?_)|(refine wpList_store_mid rfl 59 _ _ rfl E 0 f.toArray rfl rfl a9.o d4.o d2.o ?_;rw[List.toList_toArray]))
      have hR:=PD w3 E 0 f (by have:=a9.o;simpa using this);refine bX f _ _ results32 rfl hR underlying59 rfl a8.o rfl rfl ?_;have d6:=d5.o;subst d6;exact G.o.ends d1.o d0.o (λh=>by rcases h.2 with g|⟨v9,Z,g1,g2⟩;exact f6.o g;rw[b7.o] at g1;cases g1;rw[b5.o,x1.o] at g2;cases g2) rfl
     .obtain⟨Z,p2,rfl,p3⟩:=l3 rfl;have⟨f7,l6⟩:=aJ p2 p3;clear l3 l4 p2 p3 l5;have i2:Hid (bg (Kk Kq) (Qq l) r):=⟨c1.o,.inr ⟨_,Z,b7.o,by rw[b5.o];exact f7.o⟩⟩;have f8:Hid (∀a3,a3<J+1->bg (Kk Kq) (Qq l) (aK (Kk Kq) (Qq l) name a3).1):=λa3 hi=>by
       rcases Nat.lt_or_ge a3 J with g|g
       .exact d0.o a3 g
       .obtain rfl:a3=J:=A7;rw[d1.o];exact i2.o
      by_cases f1:r.Zq=20
      .have x2:(r.Zq == 20)=true:=by simp[f1]
       have f9:=Kz f1;clear f1;obtain⟨t,j,v,x,k,z,A⟩:=G.o.box.all;have i:=G.o.box.row.lt;go_upto_region 11 with fail
       clear t j v x k z A i;obtain⟨t,j,v,x,k,z,A⟩:=G.o.box.all;have i:=G.o.box.row.lt;obtain⟨_,g1⟩:=G.o.box.row.row.at (i:=1) A7;go_upto_region 12 with fail
       have b1:Hid (AgM w (w3.setCell ⟨c,1,none⟩ (.bool true)) c E V y.cost (some ⟨tb,tq,none⟩) y.steps.length nc ({r with over:=true}) S T (.slice qa L.length qc) L):=G.o.put A7 rfl rfl;generalize C:w3.setCell ⟨c,1,none⟩ (.bool true)=p4 at b1  ⊢;clear C;clear t j v x k z A i;clear g1;obtain⟨t,j,v,x,k,z,A⟩:=b1.o.box.all;have i:=b1.o.box.row.lt;obtain⟨_,g2⟩:=b1.o.box.row.row.at (i:=2) A7;go_upto_region 13 with fail
       have b2:Hid (AgM w (p4.setCell ⟨c,2,none⟩ (.bool true)) c E V y.cost (some ⟨tb,tq,none⟩) y.steps.length nc ({r with over:=true,fail:=true}) S T (.slice qa L.length qc) L):=b1.o.put A7 rfl rfl;generalize C:p4.setCell ⟨c,2,none⟩ (.bool true)=F at b2  ⊢;clear C;clear t j v x k z A i;clear g2;obtain⟨t,j,v,x,k,z,A⟩:=b2.o.box.all;have i:=b2.o.box.row.lt;obtain⟨_,g3⟩:=b2.o.box.row.row.at (i:=3) A7;go_upto_region 14 with fail
       have R:Hid (AgM w (F.setCell ⟨c,3,none⟩ (.string ⟨#[115,112,101,110,116]⟩)) c E V y.cost (some ⟨tb,tq,none⟩) y.steps.length nc ({r with over:=true,fail:=true,text:=ou}) S T (.slice qa L.length qc) L):=b2.o.put A7 rfl rfl;generalize C:F.setCell ⟨c,3,none⟩ (.string ⟨#[115,112,101,110,116]⟩)=w6 at R  ⊢;clear C;clear t j v x k z A i;clear g3;have b9:Hid (Xx (Kk Kq) (Qq l) r= ({r with over:=true,fail:=true,text:=ou},[])):=by show _=_;unfold Xx;rw[b7.o];simp only;rw[QJ f6.o,b5.o,f7.o];simp[f9.o]
       obtain⟨f,D⟩:=aj (Q_.cells ({r with over:=true,fail:=true,text:=ou}) S T);have M:f.length=7:=by rw[D];rfl
       have d2:Hid (f.toArray.all (·.oneCell')=true):=by show _=_;rw[D];exact all_oneCell_toArray (by simp[Q_.cells,Value.oneCell'])
       have d3:Hid (w6.rangeAt c 0 f):=by show World.rangeAt _ _ _ _;rw[D];exact R.o.box.rng
       have i:=R.o.box.row.lt;have d4:Hid ((prog.info? 59).map (·.size)=some f.toArray.size):=by show _=_;rw[Tryz.ky];simp[M]
       have a8:Hid ((prog.info? 59).map (·.size)=some f.length):=by show _=_;rw[Tryz.ky,M]
       have a9:Hid (w6.there E 0 f.toArray.size):=by show World.there _ _ _ _;simpa[M] using R.o.res.row.there (o:=0) (m:=7) (Pw _)
       have⟨d5,l0⟩:=aJ D M;clear D M;go_wp2_with (first|(refine wpList_load_mid rfl 59 _ rfl c 0 rfl f _ d3.o underlying59 rfl a8.o ?_)|(refine wpList_store_mid rfl 59 _ _ rfl E 0 f.toArray rfl rfl a9.o d4.o d2.o ?_;rw[List.toList_toArray]))
       have hR:=PD w6 E 0 f (by have:=a9.o;simpa using this);refine bX f _ _ results32 rfl hR underlying59 rfl a8.o rfl rfl ?_;have d6:=d5.o;subst d6;exact R.o.ends (h9.o.trans (by rw[b9.o,List.append_nil])) f8.o (λh=>by have Y:=h.1;cases Y) rfl
      .have x2:(r.Zq == 20)=false:=by simpa using f1
       have f9:=Kz f1;clear f1;have l7:=(j5 _ _ b7.o).1;obtain⟨p5,l8⟩:=jU l7 c7 c8;rw[b5.o] at p5 l8;have p6:∀l9∈s.asks,l9.size<=20:=λl9 hn=>(l8 l9 hn).2.1
       obtain⟨m0,p7⟩:=sD j6 p6 f7.o;have z6:Z.length<=5:=by rw[m0.1];exact p5
       have HW:Hid (nu y.cost y.steps r.at' Z (fV s Z)):=.inr ⟨⟨l7,⟨c7,c8⟩,c0.o.stp _ b7.o c1.o f6.o⟩,by have e:lU y.steps r.at'=s:=b5.o;rw[e];exact lD m0⟩;have p8:=Kz p7;clear p7 l7 l8 p6 m0;have p9:Z.length<=maxLen:=D6;have q0:∀m1∈Z,m1.text.size<=maxLen:=λm1 hc=>by have:=p8.o m1 hc;unfold maxLen;omega
       have x3:=G.o.a0;have p1:=G.o.a1;have x4:=G.o.act.lt;obtain⟨t,j,v,x,k,z,A⟩:=G.o.box.all;have i:=G.o.box.row.lt;go_wp2_with fail
       refine (BZ _ y.cost r.at' (some ⟨tb,tq,none⟩) o8 nc o9 y.steps Z i1.steps i1.each (Steps.kept k2.o G.o.kw) p9 q0 l6.o).mono ?_;rintro e F ⟨⟨q1,rfl,hG⟩,k5⟩;have q2:q1=fV s Z:=hG.unique HW.o;obtain⟨gc,go,gt,U⟩:=q1;have i3:=Kz q2;have q3:(cO.mk gc go gt U).cells.toArray= #[.b gc,.bool go,.b gt,.string U]:=rfl;rw[q3];clear q3 hG q2;have k6:K_ F (F.alloc (.cells #[.b gc,.bool go,.b gt,.string U] 151)):=ai _ _;have x5:=k5.size;have K6:=k5.trans k6;have R:=Kz (G.o.kept K6);have c5:=X_ F #[.b gc,.bool go,.b gt,.string U] 151 1 _ rfl;have e2:=X_ F #[.b gc,.bool go,.b gt,.string U] 151 2 _ rfl;have e3:=X_ F #[.b gc,.bool go,.b gt,.string U] 151 3 _ rfl;simp only[Qb] at c5 e2 e3;have a2:F.heap.size<(F.alloc (.cells #[.b gc,.bool go,.b gt,.string U] 151)).heap.size:=A9;have g0:F.heap.size≠c:=by have:=(G.o.kept k5).box.row.lt;omega
       have g4:=Kz (l6.o.kept K6);clear t j v x k z A i;clear x3 p1 x4 k5 k6 p9 q0 l6;cases go
       .go_upto_region 22 with fail
        generalize C:F.alloc (.cells #[.b gc,.bool false,.b gt,.string U] 151)=w6 at R g4 c5 e2 e3 a2 K6⊢;clear C c5 e3 K6;have m2:=(HW.o.Pv).1;rw[<-i3.o] at m2;have q4:gc=0:=by have h2:=GD s Z;rw[<-i3.o] at h2;exact h2
        obtain⟨q5,q6⟩:=m2 q4 rfl;dsimp only at q5 q6;clear m2 q4;have z7:r.texts.length<=100:=A7;have z8:=xR Z;obtain⟨ic,i4,i5,i6,i7⟩:=bi Tryz.gH;have m3:Hid (∀w',K_ w6 w'->w'.cell? ⟨c,6,none⟩=some (.slice S r.texts.length T)):=λw' K=>(R.o.kept K).box.all.2.2.2.2.2.2
        refine bG 6 m3.o λwd KD X=>?_
        refine ae 0 X ?_;refine ae 1 X ?_;refine ae 2 X ?_;refine aD 3 λK n=>?_;go_simp
        go_at_call 73
        refine (KY wd o8 o9 Z A7 (g4.o.kept KD)).mono ?_;rintro e w9 ⟨⟨g9,c9,rfl,q7⟩,q8⟩;have K9:=KD.trans q8;have q9:=Kz q7;have a4:=Kz (R.o.kept K9);clear q8 q7;dsimp only;refine af n (λ_=>m3.o _ K9) ?_;clear n K;refine au 4 λK n=>?_;have x6:w.heap.size<=w9.heap.size:=a4.o.kw.size;refine fH (.tmp 80) (.tmp 82) 26 rfl w.heap.size 9 ic _ 16 underlying26 i4 i5 i6 i7 rfl (.slice S r.texts.length T) r.texts.length (r.texts.map Value.string) rfl a4.o.txt (some ⟨g9,0,none⟩) c9 (bD Z) rfl q9.o D6 A7 x6 ?_;intro v2 b3 m4 m5 r0;obtain⟨i8,i9,rfl⟩:=aG m4;have g7:=Kz (a4.o.texts m4 m5 r0);have kg:But (λb=>(Value.slice S r.texts.length T).ownBlock=some b) w9 b3:=But.aI m5 λb e=>e;have m6:¬(Value.slice S r.texts.length T).ownBlock=some c:=λe=>aN (Y_ a4.o.txt e) a4.o.box.row.type A8 rfl
        have m7:=kg.row a4.o.box.row m6;have m8:b3.cell? ⟨c,6,none⟩=some (.slice S r.texts.length T):=(kg.cell a4.o.box.row.lt m6).trans a4.o.box.all.2.2.2.2.2.2;have x7:¬(Value.slice S r.texts.length T).ownBlock=some F.heap.size:=λe=>by
         have Y:=(G.o.txt.lt _ e).2;have h2:w3.heap.size<=F.heap.size:=x5;omega
        have r1:b3.cell? ⟨F.heap.size,2,none⟩=some (.b gt):=(kg.cell (Px a2 K9.size) x7).trans ((K9.cell a2).trans e2);have r2:F.heap.size<b3.heap.size:=Px (Px a2 K9.size) kg.size;refine af n (λ_=>m8) ?_;clear n K;clear m4 m5 r0 kg m6;refine au 5 λK n=>?_;go_simp
        refine af n (λ_=>m8) ?_;clear n K;obtain⟨_,g6⟩:=m7.row.at (i:=6) A7;have x9:=m7.lt;refine au 6 λK n=>?_;go_simp
        refine af n (λh=>QK rfl h) ?_;clear n K;refine aF ?_;have y0:(b3.setCell ⟨c,6,none⟩ (.slice i8 (r.texts.length+(bD Z).length) i9)).cell? ⟨F.heap.size,2,none⟩=some (.b gt):=by rw[Zj g0];exact r1
        have y1:F.heap.size<(b3.setCell ⟨c,6,none⟩ (.slice i8 (r.texts.length+(bD Z).length) i9)).heap.size:=by rw[size_setCell];exact r2
        generalize C:b3.setCell ⟨c,6,none⟩ (.slice i8 (r.texts.length+(bD Z).length) i9)=z9 at g7 y0 y1⊢;clear C m8 m7 g6 x9 e2 a2 r1 r2 X m3 KD K9 a4 q9 R g4;obtain⟨t,j,v,x,k,z,A⟩:=g7.o.box.all;have i:=g7.o.box.row.lt;obtain⟨_,A0⟩:=g7.o.box.row.row.at (i:=4) A7;go_wp2
        go_meet
        refine⟨{r with texts:=r.texts++bD Z,at':=gt},i8,i9,Kz (g7.o.put A7 rfl rfl),Kz (by unfold Xx;rw[b7.o];simp only;rw[QJ f6.o,b5.o,f7.o];simp only;rw[QJ f9.o,<-i3.o,QJ A9]),q5,q6,lo,(by show r.Zq<20;have:=f9.o;omega),(by show (r.texts++bD Z).length<=200;rw[Qi];omega),Kz λd7 ht=>?_,i2⟩;rcases PK.1 ht with ht|ht
        .exact c0.o.ts d7 ht
        .obtain⟨y2,hx,rfl⟩:=yX ht;exact p8.o y2 hx
       .go_upto_region 17 with fail
        generalize C:F.alloc (.cells #[.b gc,.bool true,.b gt,.string U] 151)=w6 at R g4 c5 e2 e3 a2 K6⊢;clear C c5 e2 g4 K6;obtain⟨t,j,v,x,k,z,A⟩:=R.o.box.all;have i:=R.o.box.row.lt;obtain⟨_,g5⟩:=R.o.box.row.row.at (i:=5) A7;go_upto_region 18 with fail
        have b6:Hid (AgM w (w6.setCell ⟨c,5,none⟩ (.b (r.Zq+1))) c E V y.cost (some ⟨tb,tq,none⟩) y.steps.length nc ({r with Zq:=r.Zq+1}) S T (.slice qa L.length qc) L):=R.o.put A7 rfl rfl;have a5:(w6.setCell ⟨c,5,none⟩ (.b (r.Zq+1))).cell? ⟨F.heap.size,3,none⟩=some (.string U):=by rw[Zj g0];exact e3
        have a6:F.heap.size<(w6.setCell ⟨c,5,none⟩ (.b (r.Zq+1))).heap.size:=by rw[size_setCell];exact a2
        generalize C:w6.setCell ⟨c,5,none⟩ (.b (r.Zq+1))=w7 at b6 a5 a6⊢;clear C;clear t j v x k z A i;clear g5;clear e3 a2;have e3:=a5;have a2:=a6;clear a5 a6;obtain⟨t,j,v,x,k,z,A⟩:=b6.o.box.all;have i:=b6.o.box.row.lt;obtain⟨_,g1⟩:=b6.o.box.row.row.at (i:=1) A7;go_upto_region 19 with fail
        have e0:Hid (AgM w (w7.setCell ⟨c,1,none⟩ (.bool true)) c E V y.cost (some ⟨tb,tq,none⟩) y.steps.length nc ({r with Zq:=r.Zq+1,over:=true}) S T (.slice qa L.length qc) L):=b6.o.put A7 rfl rfl;have a5:(w7.setCell ⟨c,1,none⟩ (.bool true)).cell? ⟨F.heap.size,3,none⟩=some (.string U):=by rw[Zj g0];exact e3
        have a6:F.heap.size<(w7.setCell ⟨c,1,none⟩ (.bool true)).heap.size:=by rw[size_setCell];exact a2
        generalize C:w7.setCell ⟨c,1,none⟩ (.bool true)=w8 at e0 a5 a6⊢;clear C;clear t j v x k z A i;clear g1;clear e3 a2;have e3:=a5;have a2:=a6;clear a5 a6;obtain⟨t,j,v,x,k,z,A⟩:=e0.o.box.all;have i:=e0.o.box.row.lt;obtain⟨_,g2⟩:=e0.o.box.row.row.at (i:=2) A7;go_upto_region 20 with fail
        have a4:Hid (AgM w (w8.setCell ⟨c,2,none⟩ (.bool true)) c E V y.cost (some ⟨tb,tq,none⟩) y.steps.length nc ({r with Zq:=r.Zq+1,over:=true,fail:=true}) S T (.slice qa L.length qc) L):=e0.o.put A7 rfl rfl;have a5:(w8.setCell ⟨c,2,none⟩ (.bool true)).cell? ⟨F.heap.size,3,none⟩=some (.string U):=by rw[Zj g0];exact e3
        have a6:F.heap.size<(w8.setCell ⟨c,2,none⟩ (.bool true)).heap.size:=by rw[size_setCell];exact a2
        generalize C:w8.setCell ⟨c,2,none⟩ (.bool true)=w9 at a4 a5 a6⊢;clear C;clear t j v x k z A i;clear g2;clear e3 a2;have e3:=a5;have a2:=a6;clear a5 a6;obtain⟨t,j,v,x,k,z,A⟩:=a4.o.box.all;have i:=a4.o.box.row.lt;obtain⟨_,g3⟩:=a4.o.box.row.row.at (i:=3) A7;go_upto_region 21 with fail
        have g8:Hid (AgM w (w9.setCell ⟨c,3,none⟩ (.string U)) c E V y.cost (some ⟨tb,tq,none⟩) y.steps.length nc ({r with Zq:=r.Zq+1,over:=true,fail:=true,text:=U}) S T (.slice qa L.length qc) L):=a4.o.put A7 rfl rfl;have a5:(w9.setCell ⟨c,3,none⟩ (.string U)).cell? ⟨F.heap.size,3,none⟩=some (.string U):=by rw[Zj g0];exact e3
        have a6:F.heap.size<(w9.setCell ⟨c,3,none⟩ (.string U)).heap.size:=by rw[size_setCell];exact a2
        generalize C:w9.setCell ⟨c,3,none⟩ (.string U)=b3 at g8 a5 a6⊢;clear C;clear t j v x k z A i;clear g3;clear e3 a2;have e3:=a5;have a2:=a6;clear a5 a6;have b9:Hid (Xx (Kk Kq) (Qq l) r= ({r with Zq:=r.Zq+1,over:=true,fail:=true,text:=U},[])):=by show _=_;unfold Xx;rw[b7.o];simp only;rw[QJ f6.o,b5.o,f7.o];simp only;rw[QJ f9.o,<-i3.o,QI rfl]
        obtain⟨f,D⟩:=aj (Q_.cells ({r with Zq:=r.Zq+1,over:=true,fail:=true,text:=U}) S T);have M:f.length=7:=by rw[D];rfl
        have d2:Hid (f.toArray.all (·.oneCell')=true):=by show _=_;rw[D];exact all_oneCell_toArray (by simp[Q_.cells,Value.oneCell'])
        have d3:Hid (b3.rangeAt c 0 f):=by show World.rangeAt _ _ _ _;rw[D];exact g8.o.box.rng
        have i:=g8.o.box.row.lt;have d4:Hid ((prog.info? 59).map (·.size)=some f.toArray.size):=by show _=_;rw[Tryz.ky];simp[M]
        have a8:Hid ((prog.info? 59).map (·.size)=some f.length):=by show _=_;rw[Tryz.ky,M]
        have a9:Hid (b3.there E 0 f.toArray.size):=by show World.there _ _ _ _;simpa[M] using g8.o.res.row.there (o:=0) (m:=7) (Pw _)
        have⟨d5,l0⟩:=aJ D M;clear D M;go_wp2_with (first|(refine wpList_load_mid rfl 59 _ rfl c 0 rfl f _ d3.o underlying59 rfl a8.o ?_)|(refine wpList_store_mid rfl 59 _ _ rfl E 0 f.toArray rfl rfl a9.o d4.o d2.o ?_;rw[List.toList_toArray]))
        have hR:=PD b3 E 0 f (by have:=a9.o;simpa using this);refine bX f _ _ results32 rfl hR underlying59 rfl a8.o rfl rfl ?_;have d6:=d5.o;subst d6;exact g8.o.ends (h9.o.trans (by rw[b9.o,List.append_nil])) f8.o (λh=>by have Y:=h.1;cases Y) rfl
   case rest=>
    clear t j v x k z A i;clear P lo v8 tl c7 c8;obtain⟨B,b4,b8,P,r3,A1,A2,w0,A3,A4,y3,i2⟩:=hcut;obtain⟨wM,rfl⟩:=aj wc;have f8:Hid (∀a3,a3<J+1->bg (Kk Kq) (Qq l) (aK (Kk Kq) (Qq l) name a3).1):=λa3 hi=>by
     rcases Nat.lt_or_ge a3 J with g|g
     .exact d0.o a3 g
     .obtain rfl:a3=J:=A7;rw[d1.o];exact i2.o
    go_upto_region 24 with fail
    obtain⟨t,j,v,x,k,z,A⟩:=P.o.box.all;have i:=P.o.box.row.lt;obtain⟨_,g5⟩:=P.o.box.row.row.at (i:=5) A7;go_upto_region 25 with fail
    have c3:Hid (AgM w (wM.setCell ⟨c,5,none⟩ (.b (B.Zq+1))) c E V y.cost na y.steps.length nc ({B with Zq:=B.Zq+1}) b4 b8 (.slice qa L.length qc) L):=P.o.put A7 rfl rfl;generalize C:wM.setCell ⟨c,5,none⟩ (.b (B.Zq+1))=wP at c3  ⊢;clear C;clear t j v x k z A i;clear g5;obtain⟨t,j,v,x,k,z,A⟩:=c3.o.box.all;have i:=c3.o.box.row.lt;dsimp only at k;obtain⟨ix,c2⟩:∃ix:Nat,B.at'= (ix:Int):=⟨B.at'.toNat,A7⟩;have f3:ix<y.steps.length:=A7;have w4:(ix:Int)<(y.steps.length:Int):=A7;obtain⟨tb,tq,w5,rfl,l1,Q,H,I,N,O,rfl,d8,f4,_⟩:=(Steps.kept k2.o c3.o.kw) ix f3;obtain⟨s,hs⟩:=aj (y.steps.getD ix Xq.zero);rw[<-hs] at Q d8 f4;have t0:=Q 0 _ rfl;have t1:=Q 1 _ rfl;have t2:=Q 2 _ rfl;have t3:=Q 3 _ rfl;have t4:=Q 4 _ rfl;have t5:=Q 5 _ rfl;have t6:=Q 6 _ rfl;have t7:=Q 7 _ rfl;rw[Qp] at t0;have e9:s∈y.steps:=by rw[hs];simp[List.getD,f3]
    have o6:=(h3 y e8 s e9).1;have o7:=(h3 y e8 s e9).2;have i1:=n4 y e8;have b5:Hid (stepOf ⟨y.cost,y.steps⟩ B.at'=s):=by show _=_;unfold stepOf;rw[c2,hs];rfl
    have p1:=c3.o.a1;have pz:=c3.o.act.lt;rw[c2] at k;have f5:=Kz d8;clear Q d8 f4 hs;have y4:=i1.each s e9;clear c2;go_upto_region 26 with fail
    have kS:K_ wP (wP.alloc (.cells #[.slice H s.asks.length I,.b s.on,.slice N s.cases.length O,.b s.els,.b s.fall,.bool s.fin,.bool s.bad,.string s.give] 146)):=ai _ _;have G:=Kz (c3.o.kept kS);have m9:=Kz (f5.o.kept kS);have v0:=X_ wP #[.slice H s.asks.length I,.b s.on,.slice N s.cases.length O,.b s.els,.b s.fall,.bool s.fin,.bool s.bad,.string s.give] 146 0 _ rfl;have v5:=X_ wP #[.slice H s.asks.length I,.b s.on,.slice N s.cases.length O,.b s.els,.b s.fall,.bool s.fin,.bool s.bad,.string s.give] 146 5 _ rfl;have v6:=X_ wP #[.slice H s.asks.length I,.b s.on,.slice N s.cases.length O,.b s.els,.b s.fall,.bool s.fin,.bool s.bad,.string s.give] 146 6 _ rfl;have v7:=X_ wP #[.slice H s.asks.length I,.b s.on,.slice N s.cases.length O,.b s.els,.b s.fall,.bool s.fin,.bool s.bad,.string s.give] 146 7 _ rfl;simp only[Qb] at v0 v5 v6 v7;have e1:wP.heap.size<(wP.alloc (.cells #[.slice H s.asks.length I,.b s.on,.slice N s.cases.length O,.b s.els,.b s.fall,.bool s.fin,.bool s.bad,.string s.give] 146)).heap.size:=A9;obtain⟨sb,d9⟩:=aj wP.heap.size;have j0:sb≠c:=by rw[d9];omega
    have n0:Hid (bu (wP.alloc (.cells #[.slice H s.asks.length I,.b s.on,.slice N s.cases.length O,.b s.els,.b s.fall,.bool s.fin,.bool s.bad,.string s.give] 146)) sb 146):=by rw[d9];exact (aH.made wP _ _).type
    rw[<-d9] at v0 v5 v6 v7 e1⊢;generalize C:wP.alloc (.cells #[.slice H s.asks.length I,.b s.on,.slice N s.cases.length O,.b s.els,.b s.fall,.bool s.fin,.bool s.bad,.string s.give] 146)=wQ at G m9 n0 v0 v5 v6 v7 e1⊢;clear C kS d9 t0 t1 t2 t3 t4 t5 t6 t7 p1 pz l1 f5 c3;clear t j v x k z A i;obtain⟨ic,i4,i5,i6,i7⟩:=bi Tryz.gH;have r4:w.heap.size<=wQ.heap.size:=G.o.kw.size;go_upto_region 27 with (at_builtin;refine gP rfl (.tmp 98) (.tmp 100) 26 rfl w.heap.size 9 ic _ 16 underlying26 i4 i5 i6 i7 rfl (.slice qa L.length qc) L.length (L.map Value.string) rfl G.o.ask H I s.asks rfl m9.o D6 A7 r4 ?_;intro vA wA n1 n2 r5;obtain⟨h0,h1,rfl⟩:=aG n1;have b1:=Kz (G.o.asks n1 n2 r5);have kA:But (λb=>(Value.slice qa L.length qc).ownBlock=some b) wQ wA:=But.aI n2 λb e=>e;have j1:Hid (¬(Value.slice qa L.length qc).ownBlock=some sb):=λe=>aN n0.o (Y_ G.o.ask e) A8 rfl)
    have u5:=(kA.cell e1 j1.o (o:=5)).trans v5;have u6:=(kA.cell e1 j1.o (o:=6)).trans v6;have u7:=(kA.cell e1 j1.o (o:=7)).trans v7;have r6:=Px e1 kA.size;have e4:=r6;have e5:=r6;clear v0 v5 v6 v7 e1 kA j1 n1 n2 r5 G m9 n0 r4 i4 i5 i6 i7;have r7:(L++s.asks).length=L.length+s.asks.length:=Qi;have j2:=Kz r7;clear r7;cases j3:s.fin
    .rw[j3] at u5;go_wp2
     go_roundg (gk-1)
     case measure=>omega
     case rel=>
      have b9:aK (Kk Kq) (Qq l) name (J+1)= ({B with Zq:=B.Zq+1},L++s.asks):=by rw[h9.o,r3.o];unfold gF;rw[b5.o,j3];rfl
      exact⟨J+1,b4,b8,h0,h1,by rw[b9,j2.o],A7,f8,Kz (by rw[b9];dsimp only;rw[j2.o];exact b1.o)⟩
    .rw[j3] at u5;go_upto_region 28 with fail
     obtain⟨t,j,v,x,k,z,A⟩:=b1.o.box.all;have i:=b1.o.box.row.lt;obtain⟨_,g1⟩:=b1.o.box.row.row.at (i:=1) A7;go_upto_region 29 with fail
     have b2:Hid (AgM w (wA.setCell ⟨c,1,none⟩ (.bool true)) c E V y.cost (some ⟨tb,tq,none⟩) y.steps.length nc ({B with Zq:=B.Zq+1,over:=true}) b4 b8 (.slice h0 (L.length+s.asks.length) h1) (L++s.asks)):=b1.o.put A7 rfl rfl;have u62:(wA.setCell ⟨c,1,none⟩ (.bool true)).cell? ⟨sb,6,none⟩=some (.bool s.bad):=by rw[Zj j0];exact u6
     have e6:sb<(wA.setCell ⟨c,1,none⟩ (.bool true)).heap.size:=by rw[size_setCell];exact e4
     have u72:(wA.setCell ⟨c,1,none⟩ (.bool true)).cell? ⟨sb,7,none⟩=some (.string s.give):=by rw[Zj j0];exact u7
     have e7:sb<(wA.setCell ⟨c,1,none⟩ (.bool true)).heap.size:=by rw[size_setCell];exact e5
     generalize C:wA.setCell ⟨c,1,none⟩ (.bool true)=wR at b2 u62 e6 u72 e7⊢;clear C;clear t j v x k z A i;clear g1;clear u6 e4;have u6:=u62;have e4:=e6;clear u62 e6;clear u7 e5;have u7:=u72;have e5:=e7;clear u72 e7;obtain⟨t,j,v,x,k,z,A⟩:=b2.o.box.all;have i:=b2.o.box.row.lt;obtain⟨_,g2⟩:=b2.o.box.row.row.at (i:=2) A7;go_upto_region 30 with fail
     have R:Hid (AgM w (wR.setCell ⟨c,2,none⟩ (.bool s.bad)) c E V y.cost (some ⟨tb,tq,none⟩) y.steps.length nc ({B with Zq:=B.Zq+1,over:=true,fail:=s.bad}) b4 b8 (.slice h0 (L.length+s.asks.length) h1) (L++s.asks)):=b2.o.put A7 rfl rfl;have u62:(wR.setCell ⟨c,2,none⟩ (.bool s.bad)).cell? ⟨sb,6,none⟩=some (.bool s.bad):=by rw[Zj j0];exact u6
     have e6:sb<(wR.setCell ⟨c,2,none⟩ (.bool s.bad)).heap.size:=by rw[size_setCell];exact e4
     have u72:(wR.setCell ⟨c,2,none⟩ (.bool s.bad)).cell? ⟨sb,7,none⟩=some (.string s.give):=by rw[Zj j0];exact u7
     have e7:sb<(wR.setCell ⟨c,2,none⟩ (.bool s.bad)).heap.size:=by rw[size_setCell];exact e5
     generalize C:wR.setCell ⟨c,2,none⟩ (.bool s.bad)=wS at R u62 e6 u72 e7⊢;clear C;clear t j v x k z A i;clear g2;clear u6 e4;have u6:=u62;have e4:=e6;clear u62 e6;clear u7 e5;have u7:=u72;have e5:=e7;clear u72 e7;obtain⟨t,j,v,x,k,z,A⟩:=R.o.box.all;have i:=R.o.box.row.lt;have y5:s.give.size<=maxLen:=y4.give;have y6:B.texts.length<=maxLen:=D6;have r8:∀d7∈B.texts,d7.size<=maxLen:=λd7 ht=>by have:=y3.o d7 ht;unfold maxLen;omega
     have r9:Hid (Strs wS b4 B.texts):=by
      obtain⟨ta,tc,s0,y7⟩:=dV R.o.txt;simp only[Qm] at s0;rw[s0.1];exact y7
     go_wp2_with fail
     refine (yM wS s.give b4 b8 B.texts y5 y6 r8 r9.o).mono ?_;rintro e wT ⟨rfl,kT⟩;have b6:=Kz (R.o.kept kT);clear u6 u7 e4 e5 kT r8 r9;clear t j v x k z A i;obtain⟨fb,n3⟩:=aj (pJ s.give B.texts);rw[<-n3];have y8:=Kz n3;clear n3;obtain⟨t,j,v,x,k,z,A⟩:=b6.o.box.all;have i:=b6.o.box.row.lt;obtain⟨_,g3⟩:=b6.o.box.row.row.at (i:=3) A7;go_wp2_with fail
     have e0:Hid (AgM w (wT.setCell ⟨c,3,none⟩ (.string fb)) c E V y.cost (some ⟨tb,tq,none⟩) y.steps.length nc ({B with Zq:=B.Zq+1,over:=true,fail:=s.bad,text:=fb}) b4 b8 (.slice h0 (L.length+s.asks.length) h1) (L++s.asks)):=b6.o.put A7 rfl rfl;go_roundg (gk-1)
     case measure=>omega
     case rel=>
      have b9:aK (Kk Kq) (Qq l) name (J+1)= ({B with Zq:=B.Zq+1,over:=true,fail:=s.bad,text:=fb},L++s.asks):=by rw[h9.o,r3.o];unfold gF;rw[b5.o,j3,y8.o];rfl
      exact⟨J+1,b4,b8,h0,h1,by rw[b9,j2.o],A7,f8,Kz (by rw[b9];dsimp only;rw[j2.o];exact e0.o)⟩
def ovr :List QY->Nat->List QY->List QY
 |xs,_,[]=>xs
 |xs,o,v :: vs=>ovr (xs.set o v) (o+1) vs
theorem Hq :∀(vs xs:List QY)(o:Nat),(ovr xs o vs).length=xs.length
 |[],_,_=>rfl
 |v :: vs,xs,o=>by unfold ovr;rw[Hq vs];simp
theorem GX :∀(vs xs:List QY)(o j:Nat),j<xs.length->(ovr xs o vs)[j]? =if o<=j/\j<o+vs.length then vs[j-o]? else xs[j]?
 |[],xs,o,j,_=>by unfold ovr;rw[QJ A9]
 |v :: vs,xs,o,j,hj=>by
  unfold ovr;rw[GX vs _ _ _ (by simpa using hj)];by_cases a:o+1<=j/\j<o+1+vs.length
  .rw[QI a,QI D7,show j-o= (j-(o+1))+1 by omega,List.getElem?_cons_succ]
  .rw[QJ a];by_cases b:j=o
   .subst b;rw[QI A9,Nat.sub_self,QA,QF hj]
   .rw[QJ D7,PT (Ne.symm b)]
variable {base cap g n:Nat}
theorem qE{size:Nat}{e:TypeId}:∀(vs:List QY){w:QX}{xs:List QY}(o:Nat),w.ownsRow base e size (.c g n cap) n xs->(w.setCells g o vs).ownsRow base e size (.c g n cap) n (ovr xs o vs)
 |[],_,_,_,h=>h
 |v :: vs,w,xs,o,h=>by
  rw[World.setCells];unfold ovr;exact qE vs (o+1) (h.stored o v).1
variable {l:List Q_}{xs:List QY}
theorem Ml{i:Nat}{cs:List QY}(b:xs.length=l.length*7)(c:cs.length=7)(j:Nat)(d:j<l.length)(f:i<l.length):((ovr xs (i*7) cs).drop (j*7)).take 7=if j=i then cs else (xs.drop (j*7)).take 7:=by
 apply List.ext_getElem?;intro k;rw[List.getElem?_take];by_cases a:k<7
 .rw[QI a,List.getElem?_drop,GX _ _ _ _ (by rw[b];omega),c];by_cases e:j=i
  .subst e;rw[QI rfl,QI A7,show j*7+k-j*7=k by omega]
  .rw[QJ e,QJ A7,List.getElem?_take,QI a,List.getElem?_drop]
 .rw[QJ a];by_cases e:j=i
  .rw[QI e,List.getElem?_eq_none A7]
  .rw[QJ e,List.getElem?_take,QJ a]
theorem bY.set{w:QX}{r:Q_}{xa:QW}{xc i:Nat}(h:bY w xs l)(c:i<l.length)(d:eY w 9 xa r.texts)(f:xa=none->xc=0):bY w (ovr xs (i*7) (r.cells xa xc)) (l.set i r):=by
 refine⟨by rw[Hq,QE];exact h.1,λj a=>?_⟩;rw[QE] at a;rw[Ml h.1 D8 j a c];by_cases e:j=i
 .subst e;have b:(l.set j r).getD j Q_.zero=r:=by simp[List.getD,a]
  rw[QI rfl,b];exact⟨xa,xc,rfl,d,f⟩
 .have b:(l.set i r).getD j Q_.zero=l.getD j Q_.zero:=by simp[List.getD,PT (Ne.symm e)]
  rw[QJ e,b];exact h.2 j a
theorem bY.one{w:QX}(h:bY w xs l):∀u∈xs,u.oneCell'=true:=λu b=>by
 obtain⟨j,c,rfl⟩:=PN b;have d:j / 7<l.length:=by have:=h.1;omega
 obtain⟨f,i,e,_⟩:=h.2 (j / 7) d;have a:xs[j]∈(xs.drop (j / 7*7)).take 7:=by
  refine List.mem_iff_getElem?.2 ⟨j % 7,?_⟩;rw[List.getElem?_take,QI (Nat.mod_lt _ A7),List.getElem?_drop,show j / 7*7+j % 7=j by omega];exact PE c
 rw[e] at a;exact Q_.one _ _ _ _ a
theorem bY.at{w:QX}(h:bY w xs l)(a:w.ownsRow base 59 7 (.c g n cap) n xs){i:Nat}(e:i<l.length):∃xa xc,w.rangeAt g (i*7) ((l.getD i Q_.zero).cells xa xc)/\eY w 9 xa (l.getD i Q_.zero).texts/\(xa=none->xc=0)/\w.there g (i*7) 7:=by
 obtain⟨xa,xc,f,k,m⟩:=h.2 i e;have p:n=l.length:=by have q:=a.1;have r:=h.1;omega
 refine⟨xa,xc,λj u b=>?_,k,m,λj c=>?_⟩
 .have c:j<7:=by have:=(PG.1 b).1;simpa[Q_.cells] using this
  have d:((xs.drop (i*7)).take 7)[j]? =some u:=by rw[f];exact b
  rw[List.getElem?_take,QI c,List.getElem?_drop] at d;have:=a.cells (g:=g) rfl _ _ d;rw[Qo,Qb] at this;exact this
 .refine⟨?_,a.frozenAt _⟩;rw[a.cellAt _ A7,PE (by rw[h.1];omega)]
  rfl
theorem jd :∀(vs:List QY)(o:Nat)(w:QX),But (λb=>b=g) w (w.setCells g o vs)
 |[],_,w=>But.ak (K_.refl w)
 |v :: vs,o,w=>by
  rw[World.setCells];exact (But.set (S:=λb=>b=g) (But.ak (K_.refl w)) (p:=⟨g,o,none⟩) rfl v).trans (jd vs (o+1) _)
theorem EK{w:QX}{b m:Nat}{a:QW}{d:QW}{k dc c:Nat}(h:jA w b a n cap d m dc)(f:w.ownsRow base 59 7 (.c g k c) k xs):b≠g:=λe=>by
 subst e;exact own_ne h.row f rfl
theorem KnZ.other{wz wr:QX}{f dc j m:Nat}{a d:QW}{R:List Q_}{l:List QY}(h:KnZ wz wr wr f (.slice d R.length dc) a n cap R d dc xs)(i:wr.ownsRow base 59 7 (.c g m j) m l)(p:wz.heap.size<=g)(q:(Value.slice d R.length dc).ownBlock≠some g)(o:Nat)(vs:List QY):
  KnZ wz (wr.setCells g o vs) (wr.setCells g o vs) f (.slice d R.length dc) a n cap R d dc xs:=by
 have k:=jd vs o wr (g:=g);have c:=EK h.known i;exact⟨dL p vs o h.kw,But.ak (K_.refl _),λ_ e=>.inl e,⟨k.row h.known.row c,(k.cell h.known.row.lt c).trans h.known.web,(k.cell h.known.row.lt c).trans h.known.runs⟩,k.owns h.own (λb e (r:b=g)=>q (by rw[e,r])),h.pack.but k (λb (e:b=g)=>by rw[e];exact dN i g rfl),h.nl⟩
theorem KnZ.over{wz wr:QX}{d dc i:Nat}{a:QW}{R:List Q_}{r:Q_}{xa:QW}{xc:Nat}(h:KnZ wz wr wr d (.c g R.length dc) a n cap R (some ⟨g,0,none⟩) dc xs)(f:i<R.length)(j:eY wr 9 xa r.texts)(l:xa=none->xc=0):
  KnZ wz (wr.setCells g (i*7) (r.cells xa xc)) (wr.setCells g (i*7) (r.cells xa xc)) d (.c g (R.set i r).length dc) a n cap (R.set i r) (some ⟨g,0,none⟩) dc (ovr xs (i*7) (r.cells xa xc)):=by
 have k:=jd (r.cells xa xc) (i*7) wr (g:=g);have c:=EK h.known h.own;have m:wz.heap.size<=g:=(h.own.lt g rfl).1;have p:∀b,b=g->¬bu wr b 9:=λb e=>by rw[e];exact dN h.own g rfl
 refine⟨dL m _ _ h.kw,But.ak (K_.refl _),λ_ e=>.inl e,⟨k.row h.known.row c,(k.cell h.known.row.lt c).trans h.known.web,?_⟩,?_,?_,λe=>(by rw[QE] at e;omega)⟩
 .rw[QE];exact (k.cell h.known.row.lt c).trans h.known.runs
 .rw[QE];exact qE _ _ h.own
 .exact (h.pack.set f j l).but k p
