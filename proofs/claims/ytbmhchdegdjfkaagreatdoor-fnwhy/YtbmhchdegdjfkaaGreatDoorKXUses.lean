import Derived.Test.YtbmhchdegdjfkaaGreatDoorKBApp
import Derived.Test.YtbmhchdegdjfkaaGreatDoorKXTop
set_option maxRecDepth 100000
set_option maxHeartbeats 25600000
namespace Go.Proofs.YtbmhchdegdjfkaaGreatDoor
open Go.RowKit Go.Proofs.Tryz
structure AgM (w0 wr:KH) (rb zb ab:Nat) (cost:Int) (sa:KG) (sn sc:Nat) (r:Q_) (xa:KG) (xc:Nat) (qv:KI) (L:List KC):Prop where
 kw:K_ w0 wr
 box:eZ wr rb r xa xc
 res:au wr zb 40 7
 act:au wr ab 77 2
 a0:wr.cell? ⟨ab,0,none⟩=some (.int .i64 cost)
 a1:wr.cell? ⟨ab,1,none⟩=some (.slice sa sn sc)
 rl:w0.heap.size<=rb
 zl:w0.heap.size<=zb
 al:w0.heap.size<=ab
 rz:rb≠zb
 txt:wr.ownsRow w0.heap.size 9 1 (.slice xa r.texts.length xc) r.texts.length (r.texts.map Value.string)
 ask:wr.ownsRow w0.heap.size 9 1 qv L.length (L.map Value.string)
 sep:∀x,(Value.slice xa r.texts.length xc).ownBlock=some x->qv.ownBlock≠some x
section
variable {w0 wr w' : KH} {rb zb ab : Nat} {cost : Int} {sa : KG} {sn sc : Nat} {r r' : Q_} {xa xa' : KG} {xc xc' : Nat} {qv qv' : KI} {L : List KC}
theorem AgM.kept(h:AgM w0 wr rb zb ab cost sa sn sc r xa xc qv L)(k:K_ wr w'):AgM w0 w' rb zb ab cost sa sn sc r xa xc qv L:=
 ⟨h.kw.trans k,h.box.kept k,h.res.kept k,h.act.kept k,(k.cell h.act.lt).trans h.a0,(k.cell h.act.lt).trans h.a1,h.rl,h.zl,h.al,h.rz,aj h.txt k,aj h.ask k,h.sep⟩
theorem AgM.ar(h:AgM w0 wr rb zb ab cost sa sn sc r xa xc qv L):ab≠rb:=aQ h.act.type h.box.row.type (by decide)
theorem AgM.put(h:AgM w0 wr rb zb ab cost sa sn sc r xa xc qv L){o:Nat}{v:KI}(f:o<7)(e:r'.cells xa xc= (r.cells xa xc).set o v)(c:r'.texts=r.texts):AgM w0 (wr.setCell ⟨rb,o,none⟩ v) rb zb ab cost sa sn sc r' xa xc qv L:=by
 have a:But (fun b=>b=rb) wr (wr.setCell ⟨rb,o,none⟩ v):=But.set (S:=fun b=>b=rb) (But.aC (K_.refl _)) (p:=⟨rb,o,none⟩) rfl v;have d:∀{b:Nat},bX wr b 9->¬b=rb:=fun i e=>aQ i h.box.row.type (by decide) e
 refine⟨Below.setCell h.kw (p:=⟨rb,o,none⟩) h.rl v,h.box.put f e,a.row h.res (fun e=>h.rz e.symm),a.row h.act h.ar,(a.cell h.act.lt h.ar).trans h.a0,(a.cell h.act.lt h.ar).trans h.a1,h.rl,h.zl,h.al,h.rz, ?_,a.owns h.ask (fun b e=>d (Y_ h.ask e)),by rw[c];exact h.sep⟩;rw[c];exact a.owns h.txt (fun b e=>d (Y_ h.txt e))
theorem AgM.texts(h:AgM w0 wr rb zb ab cost sa sn sc r xa xc qv L){w1:KH}{l:List KC}(m:w1.ownsRow w0.heap.size 9 1 (.slice xa' (r.texts.length+l.length) xc') (r.texts.length+l.length) (r.texts.map Value.string++l.map Value.string))(v:wr.grownBy w1 (Value.slice xa r.texts.length xc).ownBlock)(w:∀g,(Value.slice xa' (r.texts.length+l.length) xc').ownBlock=some g->(Value.slice xa r.texts.length xc).ownBlock=some g\/wr.heap.size<=g):
  AgM w0 (w1.setCell ⟨rb,6,none⟩ (.slice xa' (r.texts.length+l.length) xc')) rb zb ab cost sa sn sc {r with texts:=r.texts++l} xa' xc' qv L:=by
 have a:But (fun b=>(Value.slice xa r.texts.length xc).ownBlock=some b) wr w1:=But.aK v (fun b e=>e);have c:∀{b:Nat} {u:TypeId},bX wr b u->u≠9->¬(Value.slice xa r.texts.length xc).ownBlock=some b:=fun f y e=>aQ f (Y_ h.txt e) y rfl
 have i:=a.row h.box.row (c h.box.row.type (by decide));have A:w1.rangeAt rb 0 (r.cells xa xc):=a.range h.box.row (c h.box.row.type (by decide)) h.box.rng;have B:=a.row h.res (c h.res.type (by decide));have j:=a.row h.act (c h.act.type (by decide));have C:=(a.cell h.act.lt (c h.act.type (by decide)) (o:=0)).trans h.a0;have D:=(a.cell h.act.lt (c h.act.type (by decide)) (o:=1)).trans h.a1;have n:=a.owns h.ask (fun b e k=>h.sep b k e);have E:K_ w0 w1:=a.kept h.kw (fun b e=>(h.txt.lt b e).1);have d:But (fun b=>b=rb) w1 (w1.setCell ⟨rb,6,none⟩ (.slice xa' (r.texts.length+l.length) xc')):=But.set (S:=fun b=>b=rb) (But.aC (K_.refl _)) (p:=⟨rb,6,none⟩) rfl _;have q:∀{b:Nat},bX w1 b 9->¬b=rb:=fun f e=>aQ f i.type (by decide) e
 have s:(r.texts++l).length=r.texts.length+l.length:=JH;refine⟨Below.setCell E (p:=⟨rb,6,none⟩) h.rl _,⟨i.set _, ?_⟩,d.row B (fun e=>h.rz e.symm),d.row j h.ar,(d.cell j.lt h.ar).trans C,(d.cell j.lt h.ar).trans D,h.rl,h.zl,h.al,h.rz, ?_,d.owns n (fun b e=>q (Y_ n e)),fun x F t=>?_⟩
 ·have k:Q_.cells {r with texts:=r.texts++l} xa' xc'= (r.cells xa xc).set 6 (.slice xa' (r.texts.length+l.length) xc'):=by
   unfold Q_.cells;simp
  rw[k];exact lI A i.row (by omega) _
 ·show World.ownsRow _ _ _ _ (.slice xa' (r.texts++l).length xc') (r.texts++l).length ((r.texts++l).map Value.string);rw[s,Km];exact d.owns m (fun b e=>q (Y_ m e))
 ·have G:(Value.slice xa' (r.texts.length+l.length) xc').ownBlock=some x:=by rw[<-s];exact F
  rcases w x G with g|g
  ·exact h.sep x g t
  ·have:=(h.ask.lt x t).2;omega
theorem AgM.asks(h:AgM w0 wr rb zb ab cost sa sn sc r xa xc qv L){w1:KH}{l:List KC}(j:w1.ownsRow w0.heap.size 9 1 qv' (L.length+l.length) (L.map Value.string++l.map Value.string))(k:wr.grownBy w1 qv.ownBlock)(m:∀g,qv'.ownBlock=some g->qv.ownBlock=some g\/wr.heap.size<=g):
  AgM w0 w1 rb zb ab cost sa sn sc r xa xc qv' (L++l):=by
 have a:But (fun b=>qv.ownBlock=some b) wr w1:=But.aK k (fun b e=>e);have c:∀{b:Nat} {u:TypeId},bX wr b u->u≠9->¬qv.ownBlock=some b:=fun n p e=>aQ n (Y_ h.ask e) p rfl
 have d:=c h.act.type (by decide);have f:=c h.box.row.type (by decide);refine⟨a.kept h.kw (fun b e=>(h.ask.lt b e).1),⟨a.row h.box.row f,a.range h.box.row f h.box.rng⟩,a.row h.res (c h.res.type (by decide)),a.row h.act d,(a.cell h.act.lt d).trans h.a0,(a.cell h.act.lt d).trans h.a1,h.rl,h.zl,h.al,h.rz,a.owns h.txt (fun b e q=>h.sep b e q), ?_,fun x i s=>?_⟩
 ·rw[JH,Km];exact j
 ·rcases m x s with g|g
  ·exact h.sep x i g
  ·have:=(h.txt.lt x i).2;omega
end
def wW(W:dQ)(σ:Env)(name:KC)(w':KH)(e:Ending):Prop:=
 ∃(k:Nat) (xa:KG) (xc:Nat) (qa:KG) (qc:Nat),e= .returned (.tuple #[.agg ((aJ W σ name k).1.cells xa xc).toArray,.slice qa (aJ W σ name k).2.length qc])/\(∀j,j<k->aV W σ (aJ W σ name j).1)/\¬aV W σ (aJ W σ name k).1/\(eD w' 9 xa (aJ W σ name k).1.texts/\(xa=none->xc=0)/\eD w' 9 qa (aJ W σ name k).2)/\Strs w' qa (aJ W σ name k).2
variable {σ : Env} {Kq : List Qz}
theorem gU(b:bV (Kk Kq))(c:dP Kq σ){n:KC}(d:(Kk Kq n).isSome=true):∀{k:Nat},(∀j,j<k->aV (Kk Kq) σ (aJ (Kk Kq) σ n j).1)->(aJ (Kk Kq) σ n k).1.Good Kq
 | 0,_=>iD b d
 | k+1,h=>dU b c (gU b c d (fun j e=>h j (by omega))) (h k (by omega))
theorem zD(d:bV (Kk Kq)){r:Q_}(k:dP Kq σ)(l:r.Good Kq)(f:aV (Kk Kq) σ r):(Xx (Kk Kq) σ r).2.length<=5:=by
 obtain⟨A,b,m,n⟩:=(dU d k l f).act;rw[bZ] at b;have p:=(gD (d _ _ b).1 m n).1;by_cases a:(Xx (Kk Kq) σ r).2=[]
 ·rw[a];simp
 ·have e:(Xx (Kk Kq) σ r).2= (stepOf A (Xx (Kk Kq) σ r).1.at').asks:=by
   unfold Xx at a⊢;rw[b] at a⊢;simp only at a⊢;have ar:∀q:Q_,(bQ A q).2= (stepOf A (bQ A q).1.at').asks:=fun q=>by
    unfold bQ;simp only
    split <;> rfl
   by_cases c:r.Zq=0
   ·rw[Kg c];exact ar _
   ·rw[Kh c] at a⊢;rcases f.2 with e|⟨v,s,h,t⟩
    ·exact Ki e c
    ·rw[b] at h;cases h;rw[t] at a⊢;simp only at a⊢;by_cases i:r.Zq=20
     ·rw[Kg i] at a;exact Ki rfl a
     ·rw[Kh i] at a⊢;by_cases j:(bR (stepOf A r.at') s).over=true
      ·rw[Kg j] at a;exact Ki rfl a
      ·rw[Kh j];exact ar _
  rw[e];exact p
theorem mE(b:bV (Kk Kq))(c:dP Kq σ){n:KC}(d:(Kk Kq n).isSome=true):∀{k:Nat},(∀j,j<k->aV (Kk Kq) σ (aJ (Kk Kq) σ n j).1)->(aJ (Kk Kq) σ n k).2.length<=5*k
 | 0,_=>IZ _
 | k+1,h=>by
  have f:=mE b c d (k:=k) (fun j e=>h j (by omega));have i:=zD b c (gU b c d (fun j e=>h j (by omega))) (h k (by omega));show ((aJ (Kk Kq) σ n k).2++ (Xx (Kk Kq) σ (aJ (Kk Kq) σ n k).1).2).length<=5*(k+1);rw[JH];omega
theorem yG(b:bV (Kk Kq))(c:dP Kq σ){n:KC}(a:(Kk Kq n).isSome=true){k:Nat}(h:∀j,j<k->aV (Kk Kq) σ (aJ (Kk Kq) σ n j).1):k<=21:=by
 cases k with
 | zero=>omega
 | succ k=>
  have e:=dR a (k:=k) (fun j d=>h j (by omega)) (h k (by omega)).1;have f:=(gU b c a (k:=k) (fun j d=>h j (by omega))).hi;omega
theorem zC{g:Nat}:∀(vs:List KI) (o:Nat) {w u:KH},But (fun b=>b=g) w u->But (fun b=>b=g) w (u.setCells g o vs)
 | [],_,_,_,h=>h
 | v :: r,o,_,_,h=>by rw[World.setCells];exact zC r (o+1) (h.set (p:=⟨g,o,none⟩) rfl v)
theorem AgM.ends{W:dQ}{d:KC}{m wr:KH}{v a w:Nat}{cost:Int}{x:KG}{y A:Nat}{r:Q_}{xa:KG}{xc:Nat}{f:KG}{n i:Nat}{L:List KC}{k:Nat}{e:Ending}(h:AgM m wr v a w cost x y A r xa xc (.slice f n i) L)(c:aJ W σ d k= (r,L))(B:∀j,j<k->aV W σ (aJ W σ d j).1)(C:¬aV W σ r)
 (D:e= .returned (.tuple #[.agg (r.cells xa xc).toArray,.slice f n i])):wW W σ d (wr.setCells a 0 (r.cells xa xc)) e/\K_ m (wr.setCells a 0 (r.cells xa xc)):=by
 have l:But (fun b=>b=a) wr (wr.setCells a 0 (r.cells xa xc)):=zC _ _ (But.aC (K_.refl _));have p:∀{b:Nat},bX wr b 9->¬b=a:=fun E e=>aQ E h.res.type (by decide) e
 have q:=dw (l.owns h.txt (fun b e=>p (Y_ h.txt e)));have s:=l.owns h.ask (fun b e=>p (Y_ h.ask e));obtain⟨H,I,t,F⟩:=bi s;simp only[JJ] at t;obtain⟨rfl,rfl,_⟩:=t;have G:=dw s;refine⟨⟨k,xa,xc,f,i, ?_,B, ?_, ?_, ?_⟩,l.kept h.kw (fun b e=>by rw[e];exact h.zl)⟩
 ·rw[c];exact D
 ·rw[c];exact C
 ·rw[c];exact⟨q.1,q.2.1,G.1⟩
 ·rw[c];exact F
theorem AgM.start{w wc:KH}{f d:Nat}{cost:Int}{j:KG}{k l:Nat}(a:KC)(h:K_ w wc)(m:au wc f 40 7)(i:au wc d 77 2)(p:wc.cell? ⟨d,0,none⟩=some (.int .i64 cost))(q:wc.cell? ⟨d,1,none⟩=some (.slice j k l))(r:w.heap.size<=f)(s:w.heap.size<=d):
  AgM w ((wc.alloc (.cells #[.string a,.bool false,.bool false,.string ⟨#[]⟩,.int .i64 0,.int .i64 0,.slice none 0 0] 40)).alloc (.cells #[] 9)) wc.heap.size f d cost j k l (Q_.fresh a) none 0 (.slice (some ⟨wc.heap.size+1,0,none⟩) 0 0) []:=by
 have b:K_ wc (wc.alloc (.cells #[.string a,.bool false,.bool false,.string ⟨#[]⟩,.int .i64 0,.int .i64 0,.slice none 0 0] 40)):=ag _ _;have c:K_ (wc.alloc (.cells #[.string a,.bool false,.bool false,.string ⟨#[]⟩,.int .i64 0,.int .i64 0,.slice none 0 0] 40)) ((wc.alloc (.cells #[.string a,.bool false,.bool false,.string ⟨#[]⟩,.int .i64 0,.int .i64 0,.slice none 0 0] 40)).alloc (.cells #[] 9)):=ag _ _;have t:eZ (wc.alloc (.cells #[.string a,.bool false,.bool false,.string ⟨#[]⟩,.int .i64 0,.int .i64 0,.slice none 0 0] 40)) wc.heap.size (Q_.fresh a) none 0:=⟨au.made wc _ _,X_ wc _ _⟩;have n:=Jz (base:=w.heap.size) (e:=9) (size:=1) (wc.alloc (.cells #[.string a,.bool false,.bool false,.string ⟨#[]⟩,.int .i64 0,.int .i64 0,.slice none 0 0] 40)) #[] 0 (Jb h.size b.size) (Ja _) rfl;rw[JG] at n;exact⟨h.trans (b.trans c),t.kept c,m.kept (b.trans c),i.kept (b.trans c),((b.trans c).cell i.lt).trans p,((b.trans c).cell i.lt).trans q,h.size,r,s,by have:=m.lt;omega,JP _ _ _ _,n,fun x v=>by cases v⟩
theorem Ej(w:KH)(kb:Nat)(a:KG)(f4:Nat)(h:List Qz)(d:KG)(dc:Nat)(l:List Q_)(Q:KC)(j6:h.length<=1048576)(s1:l.length<=1048576)(h3:gT h)(j7:bV (Kk h))(n5:∀y∈h,y.Fits)(j8:dP h (Qq l))(h4:(Kk h Q).isSome=true)
  (n:iJ w kb a h.length f4 d l.length dc) (hN:bY w a h) (hS:bK w d l):
  Calls prog 78 #[.pointer (some ⟨kb,0,none⟩),.string Q] w fun e w'=>wW (Kk h) (Qq l) Q w' e/\K_ w w':=by
 obtain⟨z2,hA⟩:=Js.1 h4;obtain⟨c5,hk,j9,n6,rfl⟩:=fI hA;obtain⟨y,hy⟩:=ah (h.getD c5 Qz.zero);rw[<-hy] at hA j9;obtain⟨WB,h5⟩:=ah (w.alloc (.cells #[.string ⟨#[]⟩,.bool false,.bool false,.string ⟨#[]⟩,.int .i64 0,.int .i64 0,.slice none 0 0] 40));have kB:K_ w WB:=by rw[h5];exact ag _ _
 obtain⟨F,h6⟩:=ah w.heap.size;have n7:au WB F 40 7:=by rw[h5,h6];exact au.made w _ _
 have n8:Hid (w.heap.size<=F):=Jv h6.symm;obtain⟨nb,nq,f,c6,h7,E,na,nc,rfl,k0⟩:=hN c5 hk;rw[<-hy] at E k0;have k1:nb<WB.heap.size:=I_ h7 kB.size;have n9:=(kB.cell h7).trans (E 1 _ rfl);have o0:=(kB.cell h7).trans (E 2 _ rfl);subst c6;have s2:=Kz n;have k2:=Kz (n.kept kB);have k3:=Kz (hN.kept kB);have⟨s3,s4,k4,o1,o2⟩:=iU hN hS k0 kB n7;have⟨HY,k5⟩:=aD hy hA;have o3:=k2.o.web;have bz:=k2.o.row.lt;have e8:y∈h:=by rw[hy];simp[List.getD,hk]
 clear E k0 hy hA kB n7 n hN hS h7;go_enter func78,ntmps78
 go_upto_region 1 with fail
 rw[<-h5,<-h6];clear h5 h6;go_cut [6] from 14 to 27 (fun s5 wx=>∃Z,s5= .pointer (some ⟨Z,0,none⟩)/\K_ WB wx/\WB.heap.size<=Z/\au wx Z 77 2/\wx.cell? ⟨Z,0,none⟩=some (.int .i64 y.cost)/\wx.cell? ⟨Z,1,none⟩=some (.slice na y.steps.length nc))
 case first=>
  have c7:Hid (∀w',K_ WB w'->w'.cell? ⟨kb,0,none⟩=some (.slice (some ⟨nb,nq,none⟩) h.length f4)/\w'.cell? ⟨nb,nq+c5*3+1,none⟩=some (.int .i64 y.cost)/\w'.cell? ⟨nb,nq+c5*3+2,none⟩=some (.slice na y.steps.length nc)):=fun w' K=>⟨(K.cell bz).trans o3,(K.cell k1).trans n9,(K.cell k1).trans o0⟩
  have z3:(c5:Int)<(h.length:Int):=by omega
  refine bS 15 c7.o fun wd KD a2=>?_
  refine aB 0 a2 ?_;refine aB 4 a2 ?_;refine ae 8 a2 ?_;refine ae 9 a2 ?_;refine bG 10 14 (fun K n=>?_) (fun K n=>?_)
  ·rw[Kg (by rfl)];go_simp
   go_at_call 44
   refine (dG wd (some ⟨nb,nq,none⟩) f4 h Q j6 (k3.o.kept KD)).mono ?_;rintro e w2 ⟨⟨q,rfl,hq⟩,h8⟩;have K2:=KD.trans h8;obtain rfl:q= (c5:Int):=by
    rcases hq with⟨k',_,e',_,a3,h2⟩|⟨_,a3⟩
    ·rw[e',eO (by rw[<-HY.o];exact j9) n6 a3 h2]
    ·rw[k5.o] at a3;cases a3
   clear hq;dsimp only;refine n.out _ _ (fun _=>c7.o _ K2) ?_;clear n K;try simp only[Act.put,upA,upB,upC]
   clear a2;have a2:=c7.o _ K2;refine ae 11 a2 ?_;refine ae 12 a2 ?_;refine ae 13 a2 ?_;refine af 14 (fun K n=>?_);go_simp
   have K3:K_ w2 (w2.alloc (.cells #[.int .i64 0,.slice none 0 0] 77)):=ag _ _;refine n.out _ _ (fun _=>c7.o _ (K2.trans K3)) ?_;clear n K;try simp only[Act.put,upA,upB,upC]
   have a9:au (w2.alloc (.cells #[.int .i64 0,.slice none 0 0] 77)) w2.heap.size 77 2:=au.made w2 _ _;have KE:=K2.trans K3;generalize s6:w2.alloc (.cells #[.int .i64 0,.slice none 0 0] 77)=wE at a9 KE⊢;clear s6 K3;obtain⟨⟨_,v0⟩,f0⟩:=a9.row.at (i:=0) (by omega);obtain⟨⟨_,v1⟩,s7⟩:=a9.row.at (i:=1) (by omega);have vz:=a9.lt;refine af 15 (fun K n=>?_);go_simp
   refine n.out _ _ (fun R=>Ki rfl R) ?_;clear n K;try simp only[Act.put,upA,upB,upC]
   refine ay ?_;go_wp2
   go_meet
   exact⟨w2.heap.size,rfl,Below.setCell (Below.setCell KE (p:=⟨w2.heap.size,0,none⟩) K2.size _) (p:=⟨w2.heap.size,1,none⟩) K2.size _,K2.size,(a9.set _).set _,(Xk (by omega) _).trans (aS a9.row (by omega) _),aS (a9.set _).row (by omega) _⟩
  ·rw[Kg (by rfl)];go_simp
   have K3:K_ wd (wd.alloc (.cells #[.int .i64 0,.slice none 0 0] 77)):=ag _ _;have k6:=KD.trans K3;refine n.out _ _ (fun _=>c7.o _ k6) ?_;clear n K;try simp only[Act.put,upA,upB,upC]
   refine ai 10 (fun K n=>?_);go_simp
   go_at_call 44
   refine (dG (wd.alloc (.cells #[.int .i64 0,.slice none 0 0] 77)) (some ⟨nb,nq,none⟩) f4 h Q j6 (k3.o.kept k6)).mono ?_;rintro e w2 ⟨⟨q,rfl,hq⟩,h8⟩;have K2:=k6.trans h8;obtain rfl:q= (c5:Int):=by
    rcases hq with⟨k',_,e',_,a3,h2⟩|⟨_,a3⟩
    ·rw[e',eO (by rw[<-HY.o];exact j9) n6 a3 h2]
    ·rw[k5.o] at a3;cases a3
   clear hq;dsimp only;refine n.out _ _ (fun _=>c7.o _ K2) ?_;clear n K;try simp only[Act.put,upA,upB,upC]
   clear a2;have a2:=c7.o _ K2;refine ae 11 a2 ?_;refine ae 12 a2 ?_;refine ae 13 a2 ?_;have a9:au w2 wd.heap.size 77 2:=(au.made wd #[.int .i64 0,.slice none 0 0] 77).kept h8;obtain⟨⟨_,v0⟩,f0⟩:=a9.row.at (i:=0) (by omega);obtain⟨⟨_,v1⟩,s7⟩:=a9.row.at (i:=1) (by omega);have vz:=a9.lt;refine af 15 (fun K n=>?_);go_simp
   refine n.out _ _ (fun R=>Ki rfl R) ?_;clear n K;try simp only[Act.put,upA,upB,upC]
   refine ay ?_;go_wp2
   go_meet
   exact⟨wd.heap.size,rfl,Below.setCell (Below.setCell K2 (p:=⟨wd.heap.size,0,none⟩) KD.size _) (p:=⟨wd.heap.size,1,none⟩) KD.size _,KD.size,(a9.set _).set _,(Xk (by omega) _).trans (aS a9.row (by omega) _),aS (a9.set _).row (by omega) _⟩
 case rest=>
  obtain⟨Z,rfl,Kx,o4,o5,c8,c9⟩:=hcut;have f5:=Kz (AgM.start Q (o1.o.trans Kx) (o2.o.kept Kx) o5 c8 c9 n8.o (Jb o1.o.size o4));clear o4 o5 c8 c9 n9 o0 o3 bz k1 k2 k3 o2 Kx n8;go_upto_region 3 with fail
  obtain⟨c,k7⟩:=ah wc.heap.size;have o6:(wc.alloc (.cells #[.string Q,.bool false,.bool false,.string ⟨#[]⟩,.int .i64 0,.int .i64 0,.slice none 0 0] 40)).heap.size=c+1:=by rw[k7];simp
  rw[<-k7] at f5⊢;have k8:=Kz o6;clear o6;generalize s8:wc.alloc (.cells #[.string Q,.bool false,.bool false,.string ⟨#[]⟩,.int .i64 0,.int .i64 0,.slice none 0 0] 40)=w1 at f5 k8⊢;clear s8 k7;go_wp2_with fail
  rw[k8.o];clear k8;generalize s9:w1.alloc (.cells #[] 9)=w2 at f5⊢;clear s9;go_loopg [8] 22 (fun gg t8 wr=>∃(M:Nat) (V:KG) (X:Nat) (qa:KG) (qc:Nat),t8= .slice qa (aJ (Kk h) (Qq l) Q M).2.length qc/\M+gg=22/\Hid (∀a5,a5<M->aV (Kk h) (Qq l) (aJ (Kk h) (Qq l) Q a5).1)/\Hid (AgM w wr c F Z y.cost na y.steps.length nc (aJ (Kk h) (Qq l) Q M).1 V X (.slice qa (aJ (Kk h) (Qq l) Q M).2.length qc) (aJ (Kk h) (Qq l) Q M).2))
  case atStart=>exact⟨0,none,0,some ⟨c+1,0,none⟩,0,rfl,rfl,Kz (fun a5 hi=>aP hi),f5⟩
  case round=>
   clear f5;obtain⟨M,V,X,qa,qc,rfl,z4,d0,S⟩:=hrel;have c1:=Kz (gU j7 j8 h4 d0.o);have t9:=mE j7 j8 h4 d0.o;have l0:=Kz (fF (W:=Kk h) (σ:=Qq l) (n:=Q) M);obtain⟨r,hr⟩:=ah ((aJ (Kk h) (Qq l) Q M).1);obtain⟨L,hL⟩:=ah ((aJ (Kk h) (Qq l) Q M).2);rw[<-hr,<-hL] at S;rw[<-hr] at c1 l0;rw[<-hL] at t9⊢;have d1:Hid (aJ (Kk h) (Qq l) Q M= (r,L)):=by show _=_;rw[hr,hL]
   have b8:Hid (Kk h r.name=some ⟨y.cost,y.steps⟩):=by show _=_;rw[l0.o];exact k5.o
   have h9:Hid (aJ (Kk h) (Qq l) Q (M+1)= ((Xx (Kk h) (Qq l) r).1,L++ (Xx (Kk h) (Qq l) r).2)):=by show _=_;unfold aJ;rw[d1.o]
   clear hr hL l0;obtain⟨t,j,v,x,k,A,B⟩:=S.o.box.all;have i:=S.o.box.row.lt;by_cases i0:r.over=true
   ·have c2:=Kz i0;clear t j v x k A B i;have j:wr.cell? ⟨c,1,none⟩=some (.bool true):=by have R:=S.o.box.all.2.1;rw[c2.o] at R;exact R
    have i:=S.o.box.row.lt;clear i0;go_upto_region 31 with fail
    clear j i;obtain⟨f,E⟩:=ah (Q_.cells (r) V X);have N:f.length=7:=by rw[E];rfl
    have d2:Hid (f.toArray.all (·.oneCell')=true):=by show _=_;rw[E];exact all_oneCell_toArray (by simp[Q_.cells,Value.oneCell'])
    have d4:Hid (wr.rangeAt c 0 f):=by show World.rangeAt _ _ _ _;rw[E];exact S.o.box.rng
    have i:=S.o.box.row.lt;have d5:Hid ((prog.info? 40).map (·.size)=some f.toArray.size):=by show _=_;rw[Tryz.eU];simp[N]
    have b0:Hid ((prog.info? 40).map (·.size)=some f.length):=by show _=_;rw[Tryz.eU,N]
    have b1:Hid (wr.there F 0 f.toArray.size):=by show World.there _ _ _ _;simpa[N] using S.o.res.row.there (o:=0) (m:=7) (IZ _)
    have⟨d6,l1⟩:=aD E N;clear E N;go_wp2_with (first | (refine wpList_load_mid rfl 40 _ rfl c 0 rfl f _ d4.o underlying40 rfl b0.o ?_) | (refine wpList_store_mid rfl 40 _ _ rfl F 0 f.toArray rfl rfl b1.o d5.o d2.o ?_;rw[List.toList_toArray]))
    have hR:=Jc wr F 0 f (by have:=b1.o;simpa using this);refine aU f _ _ results78 rfl hR underlying40 rfl b0.o rfl rfl ?_;have d7:=d6.o;subst d7;exact S.o.ends d1.o d0.o (fun R=>by have a3:=R.1;rw[c2.o] at a3;cases a3) rfl
   have c2:Hid (r.over=false):=by cases R:r.over;rfl;exact Ki R i0
   rw[c2.o] at j;clear i0;have lo:=c1.o.lo;have v8:=c1.o.hi;have tl:=c1.o.tl;obtain⟨c8,c9⟩:0<=r.at'/\r.at' < y.steps.length:=by
    obtain⟨v9,o7,a3,h2⟩:=c1.o.act;rw[b8.o] at o7;cases o7;exact⟨a3,h2⟩
   have z5:M<=20:=by have R:=dR h4 d0.o (by rw[d1.o];exact c2.o);rw[d1.o] at R;dsimp only at R;omega
   go_upto_if 36 with fail
   go_cut [9,10,11,12] from 36 to 87 (fun _ _ _ _ wx=>∃(C:Q_) (b5:KG) (b9:Nat),Hid (AgM w wx c F Z y.cost na y.steps.length nc C b5 b9 (.slice qa L.length qc) L)/\Hid (Xx (Kk h) (Qq l) r=bQ ⟨y.cost,y.steps⟩ C)/\0<=C.at'/\C.at' < y.steps.length/\0<=C.Zq/\C.Zq<20/\C.texts.length<=200/\Hid (∀d8∈C.texts,d8.size<=200)/\Hid (aV (Kk h) (Qq l) r))
   case first=>
    by_cases hv:r.Zq=0
    ·have w0:¬(0:Int)<r.Zq:=by omega
     have HV:=Kz hv;clear hv;go_wp2
     go_meet
     exact⟨r,V,X,S,Kz (by unfold Xx;rw[b8.o];simp[HV.o]),c8,c9,lo,by omega,by omega,Kz c1.o.ts,Kz ⟨c2.o,.inl HV.o⟩⟩
    ·have z6:(0:Int)<r.Zq:=by omega
     obtain⟨ix,c3⟩:∃ix:Nat,r.at'= (ix:Int):=⟨r.at'.toNat,by omega⟩;have f6:ix<y.steps.length:=by omega
     have w5:(ix:Int)<(y.steps.length:Int):=by omega
     obtain⟨tb,tq,x0,rfl,l2,T,I,J,O,P,rfl,d9,f7,_⟩:=(Steps.kept k4.o S.o.kw) ix f6;obtain⟨s,hs⟩:=ah (y.steps.getD ix Xq.zero);rw[<-hs] at T d9 f7;have t0:=T 0 _ rfl;have t1:=T 1 _ rfl;have t2:=T 2 _ rfl;have t3:=T 3 _ rfl;have t4:=T 4 _ rfl;have t5:=T 5 _ rfl;have t6:=T 6 _ rfl;have t7:=T 7 _ rfl;rw[JM] at t0;have e9:s∈y.steps:=by rw[hs];simp[List.getD,f6]
     have o8:=(h3 y e8 s e9).1;have o9:=(h3 y e8 s e9).2;have i1:=n5 y e8;have b6:Hid (stepOf ⟨y.cost,y.steps⟩ r.at'=s):=by show _=_;unfold stepOf;rw[c3,hs];rfl
     have p1:=S.o.a1;have pz:=S.o.act.lt;rw[c3] at k;have f8:=Kz d9;clear T d9 f7 hs;have z7:=Kz c3;clear c3;go_upto_region 7 with fail
     have kS:K_ wr (wr.alloc (.cells #[.slice I s.asks.length J,.int .i64 s.on,.slice O s.cases.length P,.int .i64 s.els,.int .i64 s.fall,.bool s.fin,.bool s.bad,.string s.give] 83)):=ag _ _;have f1:=Kz (S.o.kept kS);have l3:=Kz (f8.o.kept kS);have x1:(wr.alloc (.cells #[.slice I s.asks.length J,.int .i64 s.on,.slice O s.cases.length P,.int .i64 s.els,.int .i64 s.fall,.bool s.fin,.bool s.bad,.string s.give] 83)).rangeAt wr.heap.size 0 #[.slice I s.asks.length J,.int .i64 s.on,.slice O s.cases.length P,.int .i64 s.els,.int .i64 s.fall,.bool s.fin,.bool s.bad,.string s.give].toList:=X_ wr _ _;have v0:=X_ wr #[.slice I s.asks.length J,.int .i64 s.on,.slice O s.cases.length P,.int .i64 s.els,.int .i64 s.fall,.bool s.fin,.bool s.bad,.string s.give] 83 0 _ rfl;have v1:=X_ wr #[.slice I s.asks.length J,.int .i64 s.on,.slice O s.cases.length P,.int .i64 s.els,.int .i64 s.fall,.bool s.fin,.bool s.bad,.string s.give] 83 1 _ rfl;have v2:=X_ wr #[.slice I s.asks.length J,.int .i64 s.on,.slice O s.cases.length P,.int .i64 s.els,.int .i64 s.fall,.bool s.fin,.bool s.bad,.string s.give] 83 2 _ rfl;have v3:=X_ wr #[.slice I s.asks.length J,.int .i64 s.on,.slice O s.cases.length P,.int .i64 s.els,.int .i64 s.fall,.bool s.fin,.bool s.bad,.string s.give] 83 3 _ rfl;have v4:=X_ wr #[.slice I s.asks.length J,.int .i64 s.on,.slice O s.cases.length P,.int .i64 s.els,.int .i64 s.fall,.bool s.fin,.bool s.bad,.string s.give] 83 4 _ rfl;have v5:=X_ wr #[.slice I s.asks.length J,.int .i64 s.on,.slice O s.cases.length P,.int .i64 s.els,.int .i64 s.fall,.bool s.fin,.bool s.bad,.string s.give] 83 5 _ rfl;have v6:=X_ wr #[.slice I s.asks.length J,.int .i64 s.on,.slice O s.cases.length P,.int .i64 s.els,.int .i64 s.fall,.bool s.fin,.bool s.bad,.string s.give] 83 6 _ rfl;have v7:=X_ wr #[.slice I s.asks.length J,.int .i64 s.on,.slice O s.cases.length P,.int .i64 s.els,.int .i64 s.fall,.bool s.fin,.bool s.bad,.string s.give] 83 7 _ rfl;simp only[JA] at v0 v1 v2 v3 v4 v5 v6 v7;have vz:wr.heap.size<(wr.alloc (.cells #[.slice I s.asks.length J,.int .i64 s.on,.slice O s.cases.length P,.int .i64 s.els,.int .i64 s.fall,.bool s.fin,.bool s.bad,.string s.give] 83)).heap.size:=by simp
     obtain⟨sb,e0⟩:=ah wr.heap.size;rw[<-e0] at v0 v1 v2 v3 v4 v5 v6 v7 vz⊢;generalize D:wr.alloc (.cells #[.slice I s.asks.length J,.int .i64 s.on,.slice O s.cases.length P,.int .i64 s.els,.int .i64 s.fall,.bool s.fin,.bool s.bad,.string s.give] 83)=w1 at f1 l3 v0 v1 v2 v3 v4 v5 v6 v7 vz⊢;clear D x1 kS e0 t0 t1 t2 t3 t4 t5 t6 t7 p1 pz S f8 j l2;clear t v x k A B i;go_wp2_with fail
     refine (kF w1 kb (some ⟨nb,nq,none⟩) f4 h d dc l s I O J P j6 s1 o8 o9 (s2.o.kept f1.o.kw) (s3.o.kept f1.o.kw) (s4.o.kept f1.o.kw) l3.o).mono ?_;rintro e w3 ⟨⟨d3,z8,p0,ok,rfl,l4,l5⟩,l6⟩;have H:=Kz (f1.o.kept l6);clear v0 v1 v2 v3 v4 v5 v6 v7 vz f1 l3;have p2:r.Zq≠0:=hv;have f9:=Kz p2;clear p2;cases ok
     ·have x2:=Kz (l5 rfl);clear l4 l5 l6;go_upto_region 9 with fail
      obtain⟨f,E⟩:=ah (Q_.cells (r) V X);have N:f.length=7:=by rw[E];rfl
      have d2:Hid (f.toArray.all (·.oneCell')=true):=by show _=_;rw[E];exact all_oneCell_toArray (by simp[Q_.cells,Value.oneCell'])
      have d4:Hid (w3.rangeAt c 0 f):=by show World.rangeAt _ _ _ _;rw[E];exact H.o.box.rng
      have i:=H.o.box.row.lt;have d5:Hid ((prog.info? 40).map (·.size)=some f.toArray.size):=by show _=_;rw[Tryz.eU];simp[N]
      have b0:Hid ((prog.info? 40).map (·.size)=some f.length):=by show _=_;rw[Tryz.eU,N]
      have b1:Hid (w3.there F 0 f.toArray.size):=by show World.there _ _ _ _;simpa[N] using H.o.res.row.there (o:=0) (m:=7) (IZ _)
      have⟨d6,l1⟩:=aD E N;clear E N;go_wp2_with (first | (refine wpList_load_mid rfl 40 _ rfl c 0 rfl f _ d4.o underlying40 rfl b0.o ?_) | (refine wpList_store_mid rfl 40 _ _ rfl F 0 f.toArray rfl rfl b1.o d5.o d2.o ?_;rw[List.toList_toArray]))
      have hR:=Jc w3 F 0 f (by have:=b1.o;simpa using this);refine aU f _ _ results78 rfl hR underlying40 rfl b0.o rfl rfl ?_;have d7:=d6.o;subst d7;exact H.o.ends d1.o d0.o (fun R=>by rcases R.2 with g | ⟨v9,xs,g1,g2⟩;exact f9.o g;rw[b8.o] at g1;cases g1;rw[b6.o,x2.o] at g2;cases g2) rfl
     ·obtain⟨xs,p3,rfl,p4⟩:=l4 rfl;have⟨g0,l7⟩:=aD p3 p4;clear l4 l5 p3 p4 l6;have i2:Hid (aV (Kk h) (Qq l) r):=⟨c2.o,.inr ⟨_,xs,b8.o,by rw[b6.o];exact g0.o⟩⟩;have g3:Hid (∀a5,a5<M+1->aV (Kk h) (Qq l) (aJ (Kk h) (Qq l) Q a5).1):=fun a5 hi=>by
       rcases Nat.lt_or_ge a5 M with g|g
       ·exact d0.o a5 g
       ·obtain rfl:a5=M:=by omega
        rw[d1.o];exact i2.o
      by_cases f2:r.Zq=20
      ·have x3:(r.Zq == 20)=true:=by simp[f2]
       have g4:=Kz f2;clear f2;obtain⟨t,j,v,x,k,A,B⟩:=H.o.box.all;have i:=H.o.box.row.lt;go_upto_region 11 with fail
       clear t j v x k A B i;obtain⟨t,j,v,x,k,A,B⟩:=H.o.box.all;have i:=H.o.box.row.lt;obtain⟨_,g1⟩:=H.o.box.row.row.at (i:=1) (by omega);go_upto_region 12 with fail
       have b2:Hid (AgM w (w3.setCell ⟨c,1,none⟩ (.bool true)) c F Z y.cost (some ⟨tb,tq,none⟩) y.steps.length nc ({r with over:=true}) V X (.slice qa L.length qc) L):=H.o.put (by omega) rfl rfl;generalize D:w3.setCell ⟨c,1,none⟩ (.bool true)=w4 at b2  ⊢;clear D;clear t j v x k A B i;clear g1;obtain⟨t,j,v,x,k,A,B⟩:=b2.o.box.all;have i:=b2.o.box.row.lt;obtain⟨_,g2⟩:=b2.o.box.row.row.at (i:=2) (by omega);go_upto_region 13 with fail
       have b3:Hid (AgM w (w4.setCell ⟨c,2,none⟩ (.bool true)) c F Z y.cost (some ⟨tb,tq,none⟩) y.steps.length nc ({r with over:=true,fail:=true}) V X (.slice qa L.length qc) L):=b2.o.put (by omega) rfl rfl;generalize D:w4.setCell ⟨c,2,none⟩ (.bool true)=G at b3  ⊢;clear D;clear t j v x k A B i;clear g2;obtain⟨t,j,v,x,k,A,B⟩:=b3.o.box.all;have i:=b3.o.box.row.lt;obtain⟨_,i3⟩:=b3.o.box.row.row.at (i:=3) (by omega);go_upto_region 14 with fail
       have U:Hid (AgM w (G.setCell ⟨c,3,none⟩ (.string ⟨#[115,112,101,110,116]⟩)) c F Z y.cost (some ⟨tb,tq,none⟩) y.steps.length nc ({r with over:=true,fail:=true,text:=eY}) V X (.slice qa L.length qc) L):=b3.o.put (by omega) rfl rfl;generalize D:G.setCell ⟨c,3,none⟩ (.string ⟨#[115,112,101,110,116]⟩)=w6 at U  ⊢;clear D;clear t j v x k A B i;clear i3;have c0:Hid (Xx (Kk h) (Qq l) r= ({r with over:=true,fail:=true,text:=eY},[])):=by show _=_;unfold Xx;rw[b8.o];simp only;rw[Kh f9.o,b6.o,g0.o];simp[g4.o]
       obtain⟨f,E⟩:=ah (Q_.cells ({r with over:=true,fail:=true,text:=eY}) V X);have N:f.length=7:=by rw[E];rfl
       have d2:Hid (f.toArray.all (·.oneCell')=true):=by show _=_;rw[E];exact all_oneCell_toArray (by simp[Q_.cells,Value.oneCell'])
       have d4:Hid (w6.rangeAt c 0 f):=by show World.rangeAt _ _ _ _;rw[E];exact U.o.box.rng
       have i:=U.o.box.row.lt;have d5:Hid ((prog.info? 40).map (·.size)=some f.toArray.size):=by show _=_;rw[Tryz.eU];simp[N]
       have b0:Hid ((prog.info? 40).map (·.size)=some f.length):=by show _=_;rw[Tryz.eU,N]
       have b1:Hid (w6.there F 0 f.toArray.size):=by show World.there _ _ _ _;simpa[N] using U.o.res.row.there (o:=0) (m:=7) (IZ _)
       have⟨d6,l1⟩:=aD E N;clear E N;go_wp2_with (first | (refine wpList_load_mid rfl 40 _ rfl c 0 rfl f _ d4.o underlying40 rfl b0.o ?_) | (refine wpList_store_mid rfl 40 _ _ rfl F 0 f.toArray rfl rfl b1.o d5.o d2.o ?_;rw[List.toList_toArray]))
       have hR:=Jc w6 F 0 f (by have:=b1.o;simpa using this);refine aU f _ _ results78 rfl hR underlying40 rfl b0.o rfl rfl ?_;have d7:=d6.o;subst d7;exact U.o.ends (h9.o.trans (by rw[c0.o,List.append_nil])) g3.o (fun R=>by have a3:=R.1;cases a3) rfl
      ·have x3:(r.Zq == 20)=false:=by simpa using f2
       have g4:=Kz f2;clear f2;have l8:=(j7 _ _ b8.o).1;obtain⟨p5,l9⟩:=gD l8 c8 c9;rw[b6.o] at p5 l9;have p6:∀m0∈s.asks,m0.size<=20:=fun m0 hn=>(l9 m0 hn).2.1
       obtain⟨m1,p7⟩:=jN j8 p6 g0.o;have z9:xs.length<=5:=by rw[m1.1];exact p5
       have HW:Hid (jb y.cost y.steps r.at' xs (bR s xs)):= .inr ⟨⟨l8,⟨c8,c9⟩,c1.o.stp _ b8.o c2.o f9.o⟩,by have e:iE y.steps r.at'=s:=b6.o;rw[e];exact gu m1⟩;have p8:=Kz p7;clear p7 l8 l9 p6 m1;have p9:xs.length<=maxLen:=by unfold maxLen;omega
       have q0:∀m2∈xs,m2.text.size<=maxLen:=fun m2 hc=>by have:=p8.o m2 hc;unfold maxLen;omega
       have x4:=H.o.a0;have p1:=H.o.a1;have x5:=H.o.act.lt;obtain⟨t,j,v,x,k,A,B⟩:=H.o.box.all;have i:=H.o.box.row.lt;go_wp2_with fail
       refine (ma _ y.cost r.at' (some ⟨tb,tq,none⟩) d3 nc p0 y.steps xs i1.steps i1.each (Steps.kept k4.o H.o.kw) p9 q0 l7.o).mono ?_;rintro e G ⟨⟨q1,rfl,hG⟩,i4⟩;have q2:q1=bR s xs:=hG.unique HW.o;obtain⟨gc,go,gt,Y⟩:=q1;have i5:=Kz q2;have q3:(bN.mk gc go gt Y).cells.toArray= #[.int .i64 gc,.bool go,.int .i64 gt,.string Y]:=rfl;rw[q3];clear q3 hG q2;have q4:K_ G (G.alloc (.cells #[.int .i64 gc,.bool go,.int .i64 gt,.string Y] 135)):=ag _ _;have x6:=i4.size;have K6:=i4.trans q4;have U:=Kz (H.o.kept K6);have c6:=X_ G #[.int .i64 gc,.bool go,.int .i64 gt,.string Y] 135 1 _ rfl;have f3:=X_ G #[.int .i64 gc,.bool go,.int .i64 gt,.string Y] 135 2 _ rfl;have e3:=X_ G #[.int .i64 gc,.bool go,.int .i64 gt,.string Y] 135 3 _ rfl;simp only[JA] at c6 f3 e3;have a4:G.heap.size<(G.alloc (.cells #[.int .i64 gc,.bool go,.int .i64 gt,.string Y] 135)).heap.size:=by simp
       have g6:G.heap.size≠c:=by have:=(H.o.kept i4).box.row.lt;omega
       have g7:=Kz (l7.o.kept K6);clear t j v x k A B i;clear x4 p1 x5 i4 q4 p9 q0 l7;cases go
       ·go_upto_region 22 with fail
        generalize D:G.alloc (.cells #[.int .i64 gc,.bool false,.int .i64 gt,.string Y] 135)=w6 at U g7 c6 f3 e3 a4 K6⊢;clear D c6 e3 K6;have m3:=(HW.o.Hd).1;rw[<-i5.o] at m3;have q5:gc=0:=by have h2:=uD s xs;rw[<-i5.o] at h2;exact h2
        obtain⟨q6,q7⟩:=m3 q5 rfl;dsimp only at q6 q7;clear m3 q5;have A0:r.texts.length<=100:=by omega
        have A1:=oM xs;obtain⟨ic,i6,i7,i8,i9⟩:=aO Tryz.dh;have m4:Hid (∀w',K_ w6 w'->w'.cell? ⟨c,6,none⟩=some (.slice V r.texts.length X)):=fun w' K=>(U.o.kept K).box.all.2.2.2.2.2.2
        refine bS 6 m4.o fun wd KD a2=>?_
        refine ae 0 a2 ?_;refine ae 1 a2 ?_;refine ae 2 a2 ?_;refine ai 3 (fun K n=>?_);go_simp
        go_at_call 119
        refine (t_ wd d3 p0 xs (by omega) (g7.o.kept KD)).mono ?_;rintro e w9 ⟨⟨x7,x8,rfl,q8⟩,k9⟩;have K9:=KD.trans k9;have q9:=Kz q8;have a6:=Kz (U.o.kept K9);clear k9 q8;dsimp only;refine n.out _ _ (fun _=>m4.o _ K9) ?_;clear n K;try simp only[Act.put,upA,upB,upC]
        refine af 4 (fun K n=>?_);have x9:w.heap.size<=w9.heap.size:=a6.o.kw.size;refine dY (.tmp 80) (.tmp 82) 26 rfl w.heap.size 9 ic _ 16 underlying26 i6 i7 i8 i9 rfl (.slice V r.texts.length X) r.texts.length (r.texts.map Value.string) rfl a6.o.txt (some ⟨x7,0,none⟩) x8 (aL xs) rfl q9.o (by unfold maxLen;omega) (by omega) x9 ?_;intro v2 b4 m5 m6 r0;obtain⟨j0,j1,rfl⟩:=ax m5;have g8:=Kz (a6.o.texts m5 m6 r0);have kg:But (fun b=>(Value.slice V r.texts.length X).ownBlock=some b) w9 b4:=But.aK m6 (fun b e=>e);have m7:¬(Value.slice V r.texts.length X).ownBlock=some c:=fun e=>aQ (Y_ a6.o.txt e) a6.o.box.row.type (by decide) rfl
        have m8:=kg.row a6.o.box.row m7;have m9:b4.cell? ⟨c,6,none⟩=some (.slice V r.texts.length X):=(kg.cell a6.o.box.row.lt m7).trans a6.o.box.all.2.2.2.2.2.2;have y0:¬(Value.slice V r.texts.length X).ownBlock=some G.heap.size:=fun e=>by
         have a3:=(H.o.txt.lt _ e).2;have h2:w3.heap.size<=G.heap.size:=x6;omega
        have r1:b4.cell? ⟨G.heap.size,2,none⟩=some (.int .i64 gt):=(kg.cell (I_ a4 K9.size) y0).trans ((K9.cell a4).trans f3);have r2:G.heap.size<b4.heap.size:=I_ (I_ a4 K9.size) kg.size;refine n.out _ _ (fun _=>m9) ?_;clear n K;try simp only[Act.put,upA,upB,upC]
        clear m5 m6 r0 kg m7;refine af 5 (fun K n=>?_);go_simp
        refine n.out _ _ (fun _=>m9) ?_;clear n K;try simp only[Act.put,upA,upB,upC]
        obtain⟨_,y1⟩:=m8.row.at (i:=6) (by omega);have y2:=m8.lt;refine af 6 (fun K n=>?_);go_simp
        refine n.out _ _ (fun R=>Ki rfl R) ?_;clear n K;try simp only[Act.put,upA,upB,upC]
        refine ay ?_;have y3:(b4.setCell ⟨c,6,none⟩ (.slice j0 (r.texts.length+ (aL xs).length) j1)).cell? ⟨G.heap.size,2,none⟩=some (.int .i64 gt):=by rw[Zj g6];exact r1
        have y4:G.heap.size<(b4.setCell ⟨c,6,none⟩ (.slice j0 (r.texts.length+ (aL xs).length) j1)).heap.size:=by rw[size_setCell];exact r2
        generalize D:b4.setCell ⟨c,6,none⟩ (.slice j0 (r.texts.length+ (aL xs).length) j1)=A2 at g8 y3 y4⊢;clear D m9 m8 y1 y2 f3 a4 r1 r2 a2 m4 KD K9 a6 q9 U g7;obtain⟨t,j,v,x,k,A,B⟩:=g8.o.box.all;have i:=g8.o.box.row.lt;obtain⟨_,A3⟩:=g8.o.box.row.row.at (i:=4) (by omega);go_wp2
        go_meet
        refine⟨{r with texts:=r.texts++aL xs,at':=gt},j0,j1,Kz (g8.o.put (by omega) rfl rfl),Kz (by unfold Xx;rw[b8.o];simp only;rw[Kh f9.o,b6.o,g0.o];simp only;rw[Kh g4.o,<-i5.o,Kh (by simp)]),q6,q7,lo,(by show r.Zq<20;have:=g4.o;omega),(by show (r.texts++aL xs).length<=200;rw[JH];omega),Kz (fun d8 ht=>?_),i2⟩;rcases Jh.1 ht with ht | ht
        ·exact c1.o.ts d8 ht
        ·obtain⟨y5,hx,rfl⟩:=mg ht;exact p8.o y5 hx
       ·go_upto_region 17 with fail
        generalize D:G.alloc (.cells #[.int .i64 gc,.bool true,.int .i64 gt,.string Y] 135)=w6 at U g7 c6 f3 e3 a4 K6⊢;clear D c6 f3 g7 K6;obtain⟨t,j,v,x,k,A,B⟩:=U.o.box.all;have i:=U.o.box.row.lt;obtain⟨_,g5⟩:=U.o.box.row.row.at (i:=5) (by omega);go_upto_region 18 with fail
        have b7:Hid (AgM w (w6.setCell ⟨c,5,none⟩ (.int .i64 (r.Zq+1))) c F Z y.cost (some ⟨tb,tq,none⟩) y.steps.length nc ({r with Zq:=r.Zq+1}) V X (.slice qa L.length qc) L):=U.o.put (by omega) rfl rfl;have a7:(w6.setCell ⟨c,5,none⟩ (.int .i64 (r.Zq+1))).cell? ⟨G.heap.size,3,none⟩=some (.string Y):=by rw[Zj g6];exact e3
        have a8:G.heap.size<(w6.setCell ⟨c,5,none⟩ (.int .i64 (r.Zq+1))).heap.size:=by rw[size_setCell];exact a4
        generalize D:w6.setCell ⟨c,5,none⟩ (.int .i64 (r.Zq+1))=w7 at b7 a7 a8⊢;clear D;clear t j v x k A B i;clear g5;clear e3 a4;have e3:=a7;have a4:=a8;clear a7 a8;obtain⟨t,j,v,x,k,A,B⟩:=b7.o.box.all;have i:=b7.o.box.row.lt;obtain⟨_,g1⟩:=b7.o.box.row.row.at (i:=1) (by omega);go_upto_region 19 with fail
        have e1:Hid (AgM w (w7.setCell ⟨c,1,none⟩ (.bool true)) c F Z y.cost (some ⟨tb,tq,none⟩) y.steps.length nc ({r with Zq:=r.Zq+1,over:=true}) V X (.slice qa L.length qc) L):=b7.o.put (by omega) rfl rfl;have a7:(w7.setCell ⟨c,1,none⟩ (.bool true)).cell? ⟨G.heap.size,3,none⟩=some (.string Y):=by rw[Zj g6];exact e3
        have a8:G.heap.size<(w7.setCell ⟨c,1,none⟩ (.bool true)).heap.size:=by rw[size_setCell];exact a4
        generalize D:w7.setCell ⟨c,1,none⟩ (.bool true)=w8 at e1 a7 a8⊢;clear D;clear t j v x k A B i;clear g1;clear e3 a4;have e3:=a7;have a4:=a8;clear a7 a8;obtain⟨t,j,v,x,k,A,B⟩:=e1.o.box.all;have i:=e1.o.box.row.lt;obtain⟨_,g2⟩:=e1.o.box.row.row.at (i:=2) (by omega);go_upto_region 20 with fail
        have a6:Hid (AgM w (w8.setCell ⟨c,2,none⟩ (.bool true)) c F Z y.cost (some ⟨tb,tq,none⟩) y.steps.length nc ({r with Zq:=r.Zq+1,over:=true,fail:=true}) V X (.slice qa L.length qc) L):=e1.o.put (by omega) rfl rfl;have a7:(w8.setCell ⟨c,2,none⟩ (.bool true)).cell? ⟨G.heap.size,3,none⟩=some (.string Y):=by rw[Zj g6];exact e3
        have a8:G.heap.size<(w8.setCell ⟨c,2,none⟩ (.bool true)).heap.size:=by rw[size_setCell];exact a4
        generalize D:w8.setCell ⟨c,2,none⟩ (.bool true)=w9 at a6 a7 a8⊢;clear D;clear t j v x k A B i;clear g2;clear e3 a4;have e3:=a7;have a4:=a8;clear a7 a8;obtain⟨t,j,v,x,k,A,B⟩:=a6.o.box.all;have i:=a6.o.box.row.lt;obtain⟨_,i3⟩:=a6.o.box.row.row.at (i:=3) (by omega);go_upto_region 21 with fail
        have g9:Hid (AgM w (w9.setCell ⟨c,3,none⟩ (.string Y)) c F Z y.cost (some ⟨tb,tq,none⟩) y.steps.length nc ({r with Zq:=r.Zq+1,over:=true,fail:=true,text:=Y}) V X (.slice qa L.length qc) L):=a6.o.put (by omega) rfl rfl;have a7:(w9.setCell ⟨c,3,none⟩ (.string Y)).cell? ⟨G.heap.size,3,none⟩=some (.string Y):=by rw[Zj g6];exact e3
        have a8:G.heap.size<(w9.setCell ⟨c,3,none⟩ (.string Y)).heap.size:=by rw[size_setCell];exact a4
        generalize D:w9.setCell ⟨c,3,none⟩ (.string Y)=b4 at g9 a7 a8⊢;clear D;clear t j v x k A B i;clear i3;clear e3 a4;have e3:=a7;have a4:=a8;clear a7 a8;have c0:Hid (Xx (Kk h) (Qq l) r= ({r with Zq:=r.Zq+1,over:=true,fail:=true,text:=Y},[])):=by show _=_;unfold Xx;rw[b8.o];simp only;rw[Kh f9.o,b6.o,g0.o];simp only;rw[Kh g4.o,<-i5.o,Kg rfl]
        obtain⟨f,E⟩:=ah (Q_.cells ({r with Zq:=r.Zq+1,over:=true,fail:=true,text:=Y}) V X);have N:f.length=7:=by rw[E];rfl
        have d2:Hid (f.toArray.all (·.oneCell')=true):=by show _=_;rw[E];exact all_oneCell_toArray (by simp[Q_.cells,Value.oneCell'])
        have d4:Hid (b4.rangeAt c 0 f):=by show World.rangeAt _ _ _ _;rw[E];exact g9.o.box.rng
        have i:=g9.o.box.row.lt;have d5:Hid ((prog.info? 40).map (·.size)=some f.toArray.size):=by show _=_;rw[Tryz.eU];simp[N]
        have b0:Hid ((prog.info? 40).map (·.size)=some f.length):=by show _=_;rw[Tryz.eU,N]
        have b1:Hid (b4.there F 0 f.toArray.size):=by show World.there _ _ _ _;simpa[N] using g9.o.res.row.there (o:=0) (m:=7) (IZ _)
        have⟨d6,l1⟩:=aD E N;clear E N;go_wp2_with (first | (refine wpList_load_mid rfl 40 _ rfl c 0 rfl f _ d4.o underlying40 rfl b0.o ?_) | (refine wpList_store_mid rfl 40 _ _ rfl F 0 f.toArray rfl rfl b1.o d5.o d2.o ?_;rw[List.toList_toArray]))
        have hR:=Jc b4 F 0 f (by have:=b1.o;simpa using this);refine aU f _ _ results78 rfl hR underlying40 rfl b0.o rfl rfl ?_;have d7:=d6.o;subst d7;exact g9.o.ends (h9.o.trans (by rw[c0.o,List.append_nil])) g3.o (fun R=>by have a3:=R.1;cases a3) rfl
   case rest=>
    clear t j v x k A B i;clear S lo v8 tl c8 c9;obtain⟨C,b5,b9,S,r3,A4,A5,w0,A6,A7,y6,i2⟩:=hcut;obtain⟨wM,rfl⟩:=ah wc;have g3:Hid (∀a5,a5<M+1->aV (Kk h) (Qq l) (aJ (Kk h) (Qq l) Q a5).1):=fun a5 hi=>by
     rcases Nat.lt_or_ge a5 M with g|g
     ·exact d0.o a5 g
     ·obtain rfl:a5=M:=by omega
      rw[d1.o];exact i2.o
    go_upto_region 24 with fail
    obtain⟨t,j,v,x,k,A,B⟩:=S.o.box.all;have i:=S.o.box.row.lt;obtain⟨_,g5⟩:=S.o.box.row.row.at (i:=5) (by omega);go_upto_region 25 with fail
    have c4:Hid (AgM w (wM.setCell ⟨c,5,none⟩ (.int .i64 (C.Zq+1))) c F Z y.cost na y.steps.length nc ({C with Zq:=C.Zq+1}) b5 b9 (.slice qa L.length qc) L):=S.o.put (by omega) rfl rfl;generalize D:wM.setCell ⟨c,5,none⟩ (.int .i64 (C.Zq+1))=wP at c4  ⊢;clear D;clear t j v x k A B i;clear g5;obtain⟨t,j,v,x,k,A,B⟩:=c4.o.box.all;have i:=c4.o.box.row.lt;dsimp only at k;obtain⟨ix,c3⟩:∃ix:Nat,C.at'= (ix:Int):=⟨C.at'.toNat,by omega⟩;have f6:ix<y.steps.length:=by omega
    have w5:(ix:Int)<(y.steps.length:Int):=by omega
    obtain⟨tb,tq,x0,rfl,l2,T,I,J,O,P,rfl,d9,f7,_⟩:=(Steps.kept k4.o c4.o.kw) ix f6;obtain⟨s,hs⟩:=ah (y.steps.getD ix Xq.zero);rw[<-hs] at T d9 f7;have t0:=T 0 _ rfl;have t1:=T 1 _ rfl;have t2:=T 2 _ rfl;have t3:=T 3 _ rfl;have t4:=T 4 _ rfl;have t5:=T 5 _ rfl;have t6:=T 6 _ rfl;have t7:=T 7 _ rfl;rw[JM] at t0;have e9:s∈y.steps:=by rw[hs];simp[List.getD,f6]
    have o8:=(h3 y e8 s e9).1;have o9:=(h3 y e8 s e9).2;have i1:=n5 y e8;have b6:Hid (stepOf ⟨y.cost,y.steps⟩ C.at'=s):=by show _=_;unfold stepOf;rw[c3,hs];rfl
    have p1:=c4.o.a1;have pz:=c4.o.act.lt;rw[c3] at k;have f8:=Kz d9;clear T d9 f7 hs;have y7:=i1.each s e9;clear c3;go_upto_region 26 with fail
    have kS:K_ wP (wP.alloc (.cells #[.slice I s.asks.length J,.int .i64 s.on,.slice O s.cases.length P,.int .i64 s.els,.int .i64 s.fall,.bool s.fin,.bool s.bad,.string s.give] 83)):=ag _ _;have H:=Kz (c4.o.kept kS);have n0:=Kz (f8.o.kept kS);have v0:=X_ wP #[.slice I s.asks.length J,.int .i64 s.on,.slice O s.cases.length P,.int .i64 s.els,.int .i64 s.fall,.bool s.fin,.bool s.bad,.string s.give] 83 0 _ rfl;have v5:=X_ wP #[.slice I s.asks.length J,.int .i64 s.on,.slice O s.cases.length P,.int .i64 s.els,.int .i64 s.fall,.bool s.fin,.bool s.bad,.string s.give] 83 5 _ rfl;have v6:=X_ wP #[.slice I s.asks.length J,.int .i64 s.on,.slice O s.cases.length P,.int .i64 s.els,.int .i64 s.fall,.bool s.fin,.bool s.bad,.string s.give] 83 6 _ rfl;have v7:=X_ wP #[.slice I s.asks.length J,.int .i64 s.on,.slice O s.cases.length P,.int .i64 s.els,.int .i64 s.fall,.bool s.fin,.bool s.bad,.string s.give] 83 7 _ rfl;simp only[JA] at v0 v5 v6 v7;have e2:wP.heap.size<(wP.alloc (.cells #[.slice I s.asks.length J,.int .i64 s.on,.slice O s.cases.length P,.int .i64 s.els,.int .i64 s.fall,.bool s.fin,.bool s.bad,.string s.give] 83)).heap.size:=by simp
    obtain⟨sb,e0⟩:=ah wP.heap.size;have j2:sb≠c:=by rw[e0];omega
    have n1:Hid (bX (wP.alloc (.cells #[.slice I s.asks.length J,.int .i64 s.on,.slice O s.cases.length P,.int .i64 s.els,.int .i64 s.fall,.bool s.fin,.bool s.bad,.string s.give] 83)) sb 83):=by rw[e0];exact (au.made wP _ _).type
    rw[<-e0] at v0 v5 v6 v7 e2⊢;generalize D:wP.alloc (.cells #[.slice I s.asks.length J,.int .i64 s.on,.slice O s.cases.length P,.int .i64 s.els,.int .i64 s.fall,.bool s.fin,.bool s.bad,.string s.give] 83)=wQ at H n0 n1 v0 v5 v6 v7 e2⊢;clear D kS e0 t0 t1 t2 t3 t4 t5 t6 t7 p1 pz l2 f8 c4;clear t j v x k A B i;obtain⟨ic,i6,i7,i8,i9⟩:=aO Tryz.dh;have r4:w.heap.size<=wQ.heap.size:=H.o.kw.size;go_upto_region 27 with (at_builtin;refine bP rfl (.tmp 98) (.tmp 100) 26 rfl w.heap.size 9 ic _ 16 underlying26 i6 i7 i8 i9 rfl (.slice qa L.length qc) L.length (L.map Value.string) rfl H.o.ask I J s.asks rfl n0.o (by unfold maxLen;omega) (by omega) r4 ?_;intro vA wA n2 n3 r5;obtain⟨h0,h1,rfl⟩:=ax n2;have b2:=Kz (H.o.asks n2 n3 r5);have kA:But (fun b=>(Value.slice qa L.length qc).ownBlock=some b) wQ wA:=But.aK n3 (fun b e=>e);have j3:Hid (¬(Value.slice qa L.length qc).ownBlock=some sb):=fun e=>aQ n1.o (Y_ H.o.ask e) (by decide) rfl)
    have u5:=(kA.cell e2 j3.o (o:=5)).trans v5;have u6:=(kA.cell e2 j3.o (o:=6)).trans v6;have u7:=(kA.cell e2 j3.o (o:=7)).trans v7;have r6:=I_ e2 kA.size;have e4:=r6;have e5:=r6;clear v0 v5 v6 v7 e2 kA j3 n2 n3 r5 H n0 n1 r4 i6 i7 i8 i9;have r7:(L++s.asks).length=L.length+s.asks.length:=JH;have j4:=Kz r7;clear r7;cases j5:s.fin
    ·rw[j5] at u5;go_wp2
     go_roundg (gk-1)
     case measure=>omega
     case rel=>
      have c0:aJ (Kk h) (Qq l) Q (M+1)= ({C with Zq:=C.Zq+1},L++s.asks):=by rw[h9.o,r3.o];unfold bQ;rw[b6.o,j5];rfl
      exact⟨M+1,b5,b9,h0,h1,by rw[c0,j4.o],by omega,g3,Kz (by rw[c0];dsimp only;rw[j4.o];exact b2.o)⟩
    ·rw[j5] at u5;go_upto_region 28 with fail
     obtain⟨t,j,v,x,k,A,B⟩:=b2.o.box.all;have i:=b2.o.box.row.lt;obtain⟨_,g1⟩:=b2.o.box.row.row.at (i:=1) (by omega);go_upto_region 29 with fail
     have b3:Hid (AgM w (wA.setCell ⟨c,1,none⟩ (.bool true)) c F Z y.cost (some ⟨tb,tq,none⟩) y.steps.length nc ({C with Zq:=C.Zq+1,over:=true}) b5 b9 (.slice h0 (L.length+s.asks.length) h1) (L++s.asks)):=b2.o.put (by omega) rfl rfl;have u62:(wA.setCell ⟨c,1,none⟩ (.bool true)).cell? ⟨sb,6,none⟩=some (.bool s.bad):=by rw[Zj j2];exact u6
     have e6:sb<(wA.setCell ⟨c,1,none⟩ (.bool true)).heap.size:=by rw[size_setCell];exact e4
     have u72:(wA.setCell ⟨c,1,none⟩ (.bool true)).cell? ⟨sb,7,none⟩=some (.string s.give):=by rw[Zj j2];exact u7
     have e7:sb<(wA.setCell ⟨c,1,none⟩ (.bool true)).heap.size:=by rw[size_setCell];exact e5
     generalize D:wA.setCell ⟨c,1,none⟩ (.bool true)=wR at b3 u62 e6 u72 e7⊢;clear D;clear t j v x k A B i;clear g1;clear u6 e4;have u6:=u62;have e4:=e6;clear u62 e6;clear u7 e5;have u7:=u72;have e5:=e7;clear u72 e7;obtain⟨t,j,v,x,k,A,B⟩:=b3.o.box.all;have i:=b3.o.box.row.lt;obtain⟨_,g2⟩:=b3.o.box.row.row.at (i:=2) (by omega);go_upto_region 30 with fail
     have U:Hid (AgM w (wR.setCell ⟨c,2,none⟩ (.bool s.bad)) c F Z y.cost (some ⟨tb,tq,none⟩) y.steps.length nc ({C with Zq:=C.Zq+1,over:=true,fail:=s.bad}) b5 b9 (.slice h0 (L.length+s.asks.length) h1) (L++s.asks)):=b3.o.put (by omega) rfl rfl;have u62:(wR.setCell ⟨c,2,none⟩ (.bool s.bad)).cell? ⟨sb,6,none⟩=some (.bool s.bad):=by rw[Zj j2];exact u6
     have e6:sb<(wR.setCell ⟨c,2,none⟩ (.bool s.bad)).heap.size:=by rw[size_setCell];exact e4
     have u72:(wR.setCell ⟨c,2,none⟩ (.bool s.bad)).cell? ⟨sb,7,none⟩=some (.string s.give):=by rw[Zj j2];exact u7
     have e7:sb<(wR.setCell ⟨c,2,none⟩ (.bool s.bad)).heap.size:=by rw[size_setCell];exact e5
     generalize D:wR.setCell ⟨c,2,none⟩ (.bool s.bad)=wS at U u62 e6 u72 e7⊢;clear D;clear t j v x k A B i;clear g2;clear u6 e4;have u6:=u62;have e4:=e6;clear u62 e6;clear u7 e5;have u7:=u72;have e5:=e7;clear u72 e7;obtain⟨t,j,v,x,k,A,B⟩:=U.o.box.all;have i:=U.o.box.row.lt;have y8:s.give.size<=maxLen:=y7.give;have y9:C.texts.length<=maxLen:=by unfold maxLen;omega
     have r8:∀d8∈C.texts,d8.size<=maxLen:=fun d8 ht=>by have:=y6.o d8 ht;unfold maxLen;omega
     have r9:Hid (Strs wS b5 C.texts):=by
      obtain⟨ta,tc,s0,z0⟩:=bi U.o.txt;simp only[JJ] at s0;rw[s0.1];exact z0
     go_wp2_with fail
     refine (nL wS s.give b5 b9 C.texts y8 y9 r8 r9.o).mono ?_;rintro e wT ⟨rfl,kT⟩;have b7:=Kz (U.o.kept kT);clear u6 u7 e4 e5 kT r8 r9;clear t j v x k A B i;obtain⟨fb,n4⟩:=ah (lX s.give C.texts);rw[<-n4];have z1:=Kz n4;clear n4;obtain⟨t,j,v,x,k,A,B⟩:=b7.o.box.all;have i:=b7.o.box.row.lt;obtain⟨_,i3⟩:=b7.o.box.row.row.at (i:=3) (by omega);go_wp2_with fail
     have e1:Hid (AgM w (wT.setCell ⟨c,3,none⟩ (.string fb)) c F Z y.cost (some ⟨tb,tq,none⟩) y.steps.length nc ({C with Zq:=C.Zq+1,over:=true,fail:=s.bad,text:=fb}) b5 b9 (.slice h0 (L.length+s.asks.length) h1) (L++s.asks)):=b7.o.put (by omega) rfl rfl;go_roundg (gk-1)
     case measure=>omega
     case rel=>
      have c0:aJ (Kk h) (Qq l) Q (M+1)= ({C with Zq:=C.Zq+1,over:=true,fail:=s.bad,text:=fb},L++s.asks):=by rw[h9.o,r3.o];unfold bQ;rw[b6.o,j5,z1.o];rfl
      exact⟨M+1,b5,b9,h0,h1,by rw[c0,j4.o],by omega,g3,Kz (by rw[c0];dsimp only;rw[j4.o];exact e1.o)⟩
theorem CL{b:List Q_}(h:cZ b){i j:Nat}(c:i<b.length)(d:j<b.length)(e:b.getD i Q_.zero=b.getD j Q_.zero):i=j:=by
 have f:=Jj.1 h;simp only[List.getD,Jd c,Jd d,Kl] at e;rcases Ke i j with g|g|g
 ·exact Ki (congrArg Q_.name e) (dA (f i j c d g))
 ·exact g
 ·exact Ki (congrArg Q_.name e).symm (dA (f j i d c g))
theorem uA{w u:KH}{b:Nat}{v0 v1 v2 a c d e:KI}(k:K_ w u)(f:w.heap.size<=b):K_ w (((((((u.setCell ⟨b,0,none⟩ v0).setCell ⟨b,1,none⟩ v1).setCell ⟨b,2,none⟩ v2).setCell ⟨b,3,none⟩ a).setCell ⟨b,4,none⟩ c).setCell ⟨b,5,none⟩ d).setCell ⟨b,6,none⟩ e):=
 bT f [v0,v1,v2,a,c,d,e] 0 k
theorem wK{u:KH}{b:Nat}{r:Q_}{xa:KG}{xc:Nat}(h:au u b 40 7):eZ (((((((u.setCell ⟨b,0,none⟩ (.string r.name)).setCell ⟨b,1,none⟩ (.bool r.over)).setCell ⟨b,2,none⟩ (.bool r.fail)).setCell ⟨b,3,none⟩ (.string r.text)).setCell ⟨b,4,none⟩ (.int .i64 r.at')).setCell ⟨b,5,none⟩ (.int .i64 r.Zq)).setCell ⟨b,6,none⟩ (.slice xa r.texts.length xc)) b r xa xc:=
 ⟨((((((h.set _).set _).set _).set _).set _).set _).set _,Jc u b 0 (r.cells xa xc) (h.row.there (o:=0) (m:=7) (IZ _))⟩
theorem F_{W:dQ}{σ:Env}{r:Q_}{A:dD}(e:W r.name=some A)(j:aV W σ r)(a:(Xx W σ r).1.over=false):(r.Zq=0/\(Xx W σ r).1.at'=r.at')\/(r.Zq≠0/\∃b,Yz W σ (stepOf A r.at').asks=some b/\(Xx W σ r).1.at'= (bR (stepOf A r.at') b).at'):=by
 have ar:∀q:Q_,(bQ A q).1.at'=q.at':=fun q=>by
  unfold bQ;simp only
  split <;> rfl
 unfold Xx at a⊢;rw[e] at a⊢;simp only at a⊢;by_cases c:r.Zq=0
 ·rw[Kg c];exact .inl ⟨c,ar r⟩
 ·rw[Kh c] at a⊢;rcases j.2 with k|⟨m,b,f,l⟩
  ·exact Ki k c
  ·rw[e] at f;cases f;rw[l] at a⊢;simp only at a⊢;by_cases h:r.Zq=20
   ·rw[Kg h] at a;cases a
   ·rw[Kh h] at a⊢;by_cases i:(bR (stepOf A r.at') b).over=true
    ·rw[Kg i] at a;cases a
    ·rw[Kh i];exact .inr ⟨c,b,rfl,ar _⟩
theorem gZ.Az{W:dQ}{σ:Env}{r:Q_}{L:List KC}(b:(W r.name).isSome=true)(h:gZ W σ r L)(c:r.over=true):r.Zq≠0:=by
 obtain⟨k,d,e⟩:=h;cases k with
 | zero=>
  have a:=(Prod.mk.inj d).1;rw[<-a] at c;cases c
 | succ k=>
  have f:=e k (by omega);have i:=dR b (k:=k) (fun j l=>e j (by omega)) f.1;have a:(Xx W σ (aJ W σ r.name k).1).1=r:=(Prod.mk.inj d).1;rcases fT f (by rw[fF];exact b) with g | ⟨_,g,_⟩
  ·rw[a,i] at g;omega
  ·rw[a] at g;omega
def Ey(L:List KC)(w':KH)(e:Ending):Prop:=∃(qa:KG) (qc:Nat),e= .returned (.slice qa L.length qc)/\Strs w' qa L
theorem zQ(w:KH)(a:KG)(E:Nat)(f:List Qz)(Q:KG)(R S:Nat)(d:KG)(I:Nat)(b:List Q_)(h:KC)(d9:f.length<=1048576)(e0:b.length<=1048576)(e1:gT f)(c6:bV (Kk f))(j2:∀y∈f,y.Fits)(b1:dP f (Qq b))(j3:cZ b){r:Q_}{L:List KC}(hr:Qq b h=some r)(ht:gZ (Kk f) (Qq b) r L)
  (hN:bY w a f) (hS:bK w d b):
  Calls prog 45 #[.agg #[.slice a f.length E],.agg #[.slice Q R S,.slice d b.length I],.string h] w fun e w'=>Ey L w' e/\K_ w w':=by
 obtain⟨WB,b2⟩:=ah ((w.alloc (.cells #[.slice a f.length E] 25)).alloc (.cells #[.slice Q R S,.slice d b.length I] 29));have kB:K_ w WB:=by rw[b2];exact (ag _ _).alloc _
 have n5:WB.heap.size=w.heap.size+2:=by rw[b2];simp
 have b0:WB.cell? ⟨w.heap.size,0,none⟩=some (.slice a f.length E):=by rw[b2,K_.cell (w:=w.alloc (.cells #[.slice a f.length E] 25)) (ag _ _) (by simp)];exact X_ w _ _ 0 _ rfl
 have s0:WB.cell? ⟨w.heap.size+1,0,none⟩=some (.slice Q R S):=by have:=X_ (w.alloc (.cells #[.slice a f.length E] 25)) #[.slice Q R S,.slice d b.length I] 29 0 _ rfl;rw[JG] at this;rw[b2];exact this
 have s1:WB.cell? ⟨w.heap.size+1,1,none⟩=some (.slice d b.length I):=by have:=X_ (w.alloc (.cells #[.slice a f.length E] 25)) #[.slice Q R S,.slice d b.length I] 29 1 _ rfl;rw[JG] at this;rw[b2];exact this
 have z0:w.heap.size<WB.heap.size:=by omega
 have z1:w.heap.size+1<WB.heap.size:=by omega
 have HC:Hid (∀w',K_ WB w'->w'.cell? ⟨w.heap.size,0,none⟩=some (.slice a f.length E)/\w'.cell? ⟨w.heap.size+1,0,none⟩=some (.slice Q R S)/\w'.cell? ⟨w.heap.size+1,1,none⟩=some (.slice d b.length I)/\w.heap.size<w'.heap.size/\w.heap.size+1<w'.heap.size):=fun w' K=>⟨(K.cell z0).trans b0,(K.cell z1).trans s0,(K.cell z1).trans s1,I_ z0 K.size,I_ z1 K.size⟩
 have n:=Kz kB;have f9:r.name=h:=(b1 h r hr).1;have g0:=Kz (b1 h r hr).2;obtain⟨e2,hA⟩:∃e2,Kk f h=some e2:=by
  obtain⟨e2,hA,_⟩:=g0.o.act;rw[f9] at hA;exact⟨e2,hA⟩
 have a6:(Kk f h).isSome=true:=by rw[hA];rfl
 obtain⟨F,hk,g1,j4,rfl⟩:=fI hA;obtain⟨y,hy⟩:=ah (f.getD F Qz.zero);rw[<-hy] at hA g1;have e3:y∈f:=by rw[hy];simp[List.getD,hk]
 obtain⟨Y,nq,cs,g2,j5,e4,na,nc,rfl,g3⟩:=hN F hk;rw[<-hy] at e4 g3;subst g2;have j6:=e4 1 _ rfl;have j7:=e4 2 _ rfl;obtain⟨i,hi,g4⟩:∃i,i<b.length/\b.getD i Q_.zero=r:=by
  have q:=List.mem_of_find?_eq_some hr;obtain⟨i,hi,e⟩:=Jk q;exact⟨i,hi,by simp[List.getD,hi,e]⟩
 obtain⟨G,H,xa,xc,g2,b3,a3,_,_⟩:=hS i hi;rw[g4] at a3;subst g2;have⟨g5,e5,e6,g6,HY⟩:=iU hA hN hS g3 hy;have⟨b4,HT,HR,j8⟩:=jh f9 ht hr g4;have x0:=a3 0 _ rfl;have x1:=a3 1 _ rfl;have x2:=a3 2 _ rfl;have x3:=a3 3 _ rfl;have x4:=a3 4 _ rfl;have x5:=a3 5 _ rfl;have x6:=a3 6 _ rfl;rw[JM] at x0;clear kB n5 b0 s0 s1 e4 g3 hA hN hS hy a3 f9 ht hr g4;go_enter func45,ntmps45
 go_upto_region 1 with fail
 rw[<-b2];clear b2;obtain⟨b0,s0,s1,_,_⟩:=HC.o _ (K_.refl WB);go_wp2_with fail
 refine (j_ WB (some ⟨Y,nq,none⟩) f.length E Q R S (some ⟨G,H,none⟩) b.length I).mono ?_;rintro e w1 ⟨kb,rfl,a7,k1⟩;have⟨c7,Z⟩:=aD a7 k1;clear a7 k1 b0 s0 s1 z0 z1;go_wp2_with fail
 refine (Ej w1 kb (some ⟨Y,nq,none⟩) E f (some ⟨G,H,none⟩) I b h d9 e0 e1 c6 j2 b1 a6 c7.o (e5.o.kept (n.o.trans Z.out)) (e6.o.kept (n.o.trans Z.out))).mono ?_;rintro e w2 ⟨⟨kk,ya,yc,qa,qc,rfl,e7,e8,_,J⟩,W⟩;obtain⟨v,j9⟩:=ah ((aJ (Kk f) (Qq b) h kk).1);obtain⟨Lx,e9⟩:=ah ((aJ (Kk f) (Qq b) h kk).2);have k0:Hid (r.over=true->Lx=L):=fun ho=>by
  have q:=HT.o.last ho (k:=kk) (by rw[b4.o];exact e7) (by rw[b4.o];exact e8);rw[b4.o] at q;rw[e9,q]
 rw[<-e9] at J;rw[<-j9,<-e9];have c8:(Q_.cells v ya yc).toArray= #[.string v.name,.bool v.over,.bool v.fail,.string v.text,.int .i64 v.at',.int .i64 v.Zq,.slice ya v.texts.length yc]:=rfl;rw[c8];have HQ:=Kz J;have T:=Kz (Z.out.trans W);clear c8 j9 e9 e7 e8 J W Z c7;go_upto_region 2 with fail
 have kR:K_ w2 (w2.alloc (.cells #[.string v.name,.bool v.over,.bool v.fail,.string v.text,.int .i64 v.at',.int .i64 v.Zq,.slice ya v.texts.length yc] 40)):=ag _ _;have k:=Kz (T.out.trans kR);have g7:=Kz (HQ.o.kept kR);generalize n6:w2.alloc (.cells #[.string v.name,.bool v.over,.bool v.fail,.string v.text,.int .i64 v.at',.int .i64 v.Zq,.slice ya v.texts.length yc] 40)=w3 at k g7⊢;clear n6 kR T HQ;have a8:Hid (∀w',K_ w3 w'->w'.cell? ⟨w.heap.size+1,0,none⟩=some (.slice Q R S)/\w'.cell? ⟨w.heap.size+1,1,none⟩=some (.slice (some ⟨G,H,none⟩) b.length I)/\w'.cell? ⟨G,H+i*7,none⟩=some (.string r.name)/\w'.cell? ⟨G,H+i*7+1,none⟩=some (.bool r.over)/\w'.cell? ⟨G,H+i*7+2,none⟩=some (.bool r.fail)/\w'.cell? ⟨G,H+i*7+3,none⟩=some (.string r.text)/\w'.cell? ⟨G,H+i*7+4,none⟩=some (.int .i64 r.at')/\w'.cell? ⟨G,H+i*7+5,none⟩=some (.int .i64 r.Zq)/\w'.cell? ⟨G,H+i*7+6,none⟩=some (.slice xa r.texts.length xc)):=fun w' K=>⟨(HC.o w' (k.out.trans K)).2.1,(HC.o w' (k.out.trans K)).2.2.1,((n.o.trans (k.out.trans K)).cell b3).trans x0,((n.o.trans (k.out.trans K)).cell b3).trans x1,((n.o.trans (k.out.trans K)).cell b3).trans x2,((n.o.trans (k.out.trans K)).cell b3).trans x3,((n.o.trans (k.out.trans K)).cell b3).trans x4,((n.o.trans (k.out.trans K)).cell b3).trans x5,((n.o.trans (k.out.trans K)).cell b3).trans x6⟩
 have g8:(i:Int)<(b.length:Int):=by omega
 clear x0 x1 x2 x3 x4 x5 x6;go_cut [9] from 24 to 30 (fun s9 wx=>∃c2,s9= .pointer (some ⟨c2,0,none⟩)/\K_ w3 wx/\w3.heap.size<=c2/\eZ wx c2 r xa xc)
 case first=>
  refine bS 8 a8.o fun B N j=>?_
  refine aB 0 j ?_;refine bG 4 7 (fun K c=>?_) (fun K c=>?_)
  ·rw[Kg (by rfl)];go_simp
   go_at_call 43
   refine (gQ B Q R S (some ⟨G,H,none⟩) I b h e0 (e6.o.kept (n.o.trans (k.out.trans N)))).mono ?_;rintro e w4 ⟨⟨b5,rfl,J⟩,W⟩;have A:=N.trans W;obtain⟨C,c9,rfl,d0,g9⟩:∃C:Nat,C<b.length/\b5= (C:Int)/\b.getD C Q_.zero=r/\(b.getD C Q_.zero).name=h:=by
    rcases J with⟨C,l,O,h3,h0⟩|⟨_,l⟩
    ·rw[HR.o] at h3;exact⟨C,l,O,(JR h3).symm,h0⟩
    ·rw[HR.o] at l;cases l
   obtain rfl:C=i:=CL j3 c9 hi (by rw[d0,j8.o]);clear J d0 g9 c9;dsimp only;refine c.out _ _ (fun _=>a8.o _ A) ?_;clear c K;try simp only[Act.put,upA,upB,upC]
   clear j;have j:=a8.o _ A;refine ae 5 j ?_;refine ae 6 j ?_;refine af 7 (fun K c=>?_);go_simp
   have K5:K_ w4 (w4.alloc (.cells #[.string ⟨#[]⟩,.bool false,.bool false,.string ⟨#[]⟩,.int .i64 0,.int .i64 0,.slice none 0 0] 40)):=ag _ _;refine c.out _ _ (fun _=>a8.o _ (A.trans K5)) ?_;clear c K;try simp only[Act.put,upA,upB,upC]
   have s:au (w4.alloc (.cells #[.string ⟨#[]⟩,.bool false,.bool false,.string ⟨#[]⟩,.int .i64 0,.int .i64 0,.slice none 0 0] 40)) w4.heap.size 40 7:=au.made w4 _ _;have KE:=A.trans K5;generalize h1:w4.alloc (.cells #[.string ⟨#[]⟩,.bool false,.bool false,.string ⟨#[]⟩,.int .i64 0,.int .i64 0,.slice none 0 0] 40)=wE at s KE⊢;clear h1 K5;obtain⟨⟨⟨_,v0⟩,f0⟩,⟨⟨_,v1⟩,h2⟩,⟨⟨_,n7⟩,f2⟩,⟨⟨_,n8⟩,n9⟩,⟨⟨_,o0⟩,o1⟩,⟨⟨_,v5⟩,o2⟩,⟨_,o3⟩,f6⟩:=s.row.AB;have vz:=s.lt;refine af 8 (fun K c=>?_);go_simp
   refine c.out _ _ (fun q=>Ki rfl q) ?_;clear c K;try simp only[Act.put,upA,upB,upC]
   refine ay ?_;go_wp2
   go_meet
   exact⟨w4.heap.size,rfl,uA KE A.size,A.size,wK s⟩
  ·rw[Kg (by rfl)];go_simp
   have K5:K_ B (B.alloc (.cells #[.string ⟨#[]⟩,.bool false,.bool false,.string ⟨#[]⟩,.int .i64 0,.int .i64 0,.slice none 0 0] 40)):=ag _ _;have h4:=N.trans K5;refine c.out _ _ (fun _=>a8.o _ h4) ?_;clear c K;try simp only[Act.put,upA,upB,upC]
   refine ai 4 (fun K c=>?_);go_simp
   go_at_call 43
   refine (gQ (B.alloc (.cells #[.string ⟨#[]⟩,.bool false,.bool false,.string ⟨#[]⟩,.int .i64 0,.int .i64 0,.slice none 0 0] 40)) Q R S (some ⟨G,H,none⟩) I b h e0 (e6.o.kept (n.o.trans (k.out.trans h4)))).mono ?_;rintro e w4 ⟨⟨b5,rfl,J⟩,W⟩;have A:=h4.trans W;obtain⟨C,c9,rfl,d0,g9⟩:∃C:Nat,C<b.length/\b5= (C:Int)/\b.getD C Q_.zero=r/\(b.getD C Q_.zero).name=h:=by
    rcases J with⟨C,l,O,h3,h0⟩|⟨_,l⟩
    ·rw[HR.o] at h3;exact⟨C,l,O,(JR h3).symm,h0⟩
    ·rw[HR.o] at l;cases l
   obtain rfl:C=i:=CL j3 c9 hi (by rw[d0,j8.o]);clear J d0 g9 c9;dsimp only;refine c.out _ _ (fun _=>a8.o _ A) ?_;clear c K;try simp only[Act.put,upA,upB,upC]
   clear j;have j:=a8.o _ A;refine ae 5 j ?_;refine ae 6 j ?_;have s:au w4 B.heap.size 40 7:=(au.made B #[.string ⟨#[]⟩,.bool false,.bool false,.string ⟨#[]⟩,.int .i64 0,.int .i64 0,.slice none 0 0] 40).kept W;obtain⟨⟨⟨_,v0⟩,f0⟩,⟨⟨_,v1⟩,h2⟩,⟨⟨_,n7⟩,f2⟩,⟨⟨_,n8⟩,n9⟩,⟨⟨_,o0⟩,o1⟩,⟨⟨_,v5⟩,o2⟩,⟨_,o3⟩,f6⟩:=s.row.AB;have vz:=s.lt;refine af 8 (fun K c=>?_);go_simp
   refine c.out _ _ (fun q=>Ki rfl q) ?_;clear c K;try simp only[Act.put,upA,upB,upC]
   refine ay ?_;go_wp2
   go_meet
   exact⟨B.heap.size,rfl,uA A N.size,N.size,wK s⟩
 case rest=>
  obtain⟨c2,rfl,Kc,o4,k2⟩:=hcut;have f1:=Kz k2;have A:=Kz (k.out.trans Kc);have k3:=Kz (g7.o.kept Kc)
  skip
  clear k2 Kc g7 a8 k o4 g8;obtain⟨q0,q1,q2,q3,q4,o5,o6⟩:=f1.o.all;have qz:=f1.o.row.lt;have lo:=g0.o.lo;have s7:=g0.o.hi;cases a4:r.over
  ·rw[a4] at q1;by_cases hv:r.Zq=0
   ·have o7:(r.Zq == 0)=true:=by simp[hv]
    have a1:Hid (L=[]):=HT.o.zero (by rw[b4.o];exact a6) hv a4;clear hv a4;go_wp2
    go_ret
    exact⟨⟨_,0,by rw[a1.o];rfl,by rw[a1.o];exact fun i hi=>by cases hi⟩,n.o.trans (A.out.trans (ag _ _))⟩
   ·have o7:(r.Zq == 0)=false:=by simpa using hv
    obtain⟨K,a7,h5,h6⟩:=HT.o.here (by rw[b4.o];exact a6) a4;rw[b4.o] at h5 h6;have⟨o8,k4,c3,o9⟩:=jh a7 h5 h6 a4;have s8:K<=20:=by omega
    clear hv a4 a7 h5 h6 k0 k3;go_upto_region 7 with fail
    have a9:Hid (∀w',K_ wc w'->w'.cell? ⟨w.heap.size,0,none⟩=some (.slice (some ⟨Y,nq,none⟩) f.length E)/\w'.cell? ⟨Y,nq+F*3+1,none⟩=some (.int .i64 y.cost)/\w'.cell? ⟨Y,nq+F*3+2,none⟩=some (.slice na y.steps.length nc)):=fun w' K=>⟨(HC.o w' (A.out.trans K)).1,((n.o.trans (A.out.trans K)).cell j5).trans j6,((n.o.trans (A.out.trans K)).cell j5).trans j7⟩
    have t8:(F:Int)<(f.length:Int):=by omega
    clear q0 q1 q2 q3 q4 o5 o6 qz;go_cut [10] from 31 to 50 (fun p0 wx=>∃ab,p0= .pointer (some ⟨ab,0,none⟩)/\K_ wc wx/\au wx ab 77 2/\wx.cell? ⟨ab,0,none⟩=some (.int .i64 y.cost)/\wx.cell? ⟨ab,1,none⟩=some (.slice na y.steps.length nc))
    case first=>
     refine bS 9 a9.o fun B N j=>?_
     refine aB 0 j ?_;refine bG 4 8 (fun K c=>?_) (fun K c=>?_)
     ·rw[Kg (by rfl)];go_simp
      go_at_call 44
      refine (dG B (some ⟨Y,nq,none⟩) E f h d9 (e5.o.kept (n.o.trans (A.out.trans N)))).mono ?_;rintro e w2 ⟨⟨b5,rfl,J⟩,W⟩;have T:=N.trans W;obtain rfl:b5= (F:Int):=by
       rcases J with⟨k',_,e',_,l,O⟩|⟨_,l⟩
       ·rw[e',eO (by rw[<-HY.o];exact g1) j4 l O]
       ·rw[g5.o] at l;cases l
      clear J;dsimp only;refine c.out _ _ (fun _=>a9.o _ T) ?_;clear c K;try simp only[Act.put,upA,upB,upC]
      clear j;have j:=a9.o _ T;refine ae 5 j ?_;refine ae 6 j ?_;refine ae 7 j ?_;refine af 8 (fun K c=>?_);go_simp
      have k:K_ w2 (w2.alloc (.cells #[.int .i64 0,.slice none 0 0] 77)):=ag _ _;refine c.out _ _ (fun _=>a9.o _ (T.trans k)) ?_;clear c K;try simp only[Act.put,upA,upB,upC]
      have s:au (w2.alloc (.cells #[.int .i64 0,.slice none 0 0] 77)) w2.heap.size 77 2:=au.made w2 _ _;have KE:=T.trans k;generalize h1:w2.alloc (.cells #[.int .i64 0,.slice none 0 0] 77)=wE at s KE⊢;clear h1 k;obtain⟨⟨_,v0⟩,f0⟩:=s.row.at (i:=0) (by omega);obtain⟨⟨_,v1⟩,h2⟩:=s.row.at (i:=1) (by omega);have vz:=s.lt;refine af 9 (fun K c=>?_);go_simp
      refine c.out _ _ (fun q=>Ki rfl q) ?_;clear c K;try simp only[Act.put,upA,upB,upC]
      refine ay ?_;go_wp2
      go_meet
      exact⟨w2.heap.size,rfl,Below.setCell (Below.setCell KE (p:=⟨w2.heap.size,0,none⟩) T.size _) (p:=⟨w2.heap.size,1,none⟩) T.size _,(s.set _).set _,(Xk (by omega) _).trans (aS s.row (by omega) _),aS (s.set _).row (by omega) _⟩
     ·rw[Kg (by rfl)];go_simp
      have k:K_ B (B.alloc (.cells #[.int .i64 0,.slice none 0 0] 77)):=ag _ _;have h7:=N.trans k;refine c.out _ _ (fun _=>a9.o _ h7) ?_;clear c K;try simp only[Act.put,upA,upB,upC]
      refine ai 4 (fun K c=>?_);go_simp
      go_at_call 44
      refine (dG (B.alloc (.cells #[.int .i64 0,.slice none 0 0] 77)) (some ⟨Y,nq,none⟩) E f h d9 (e5.o.kept (n.o.trans (A.out.trans h7)))).mono ?_;rintro e w2 ⟨⟨b5,rfl,J⟩,W⟩;have T:=h7.trans W;obtain rfl:b5= (F:Int):=by
       rcases J with⟨k',_,e',_,l,O⟩|⟨_,l⟩
       ·rw[e',eO (by rw[<-HY.o];exact g1) j4 l O]
       ·rw[g5.o] at l;cases l
      clear J;dsimp only;refine c.out _ _ (fun _=>a9.o _ T) ?_;clear c K;try simp only[Act.put,upA,upB,upC]
      clear j;have j:=a9.o _ T;refine ae 5 j ?_;refine ae 6 j ?_;refine ae 7 j ?_;have s:au w2 B.heap.size 77 2:=(au.made B #[.int .i64 0,.slice none 0 0] 77).kept W;obtain⟨⟨_,v0⟩,f0⟩:=s.row.at (i:=0) (by omega);obtain⟨⟨_,v1⟩,h2⟩:=s.row.at (i:=1) (by omega);have vz:=s.lt;refine af 9 (fun K c=>?_);go_simp
      refine c.out _ _ (fun q=>Ki rfl q) ?_;clear c K;try simp only[Act.put,upA,upB,upC]
      refine ay ?_;go_wp2
      go_meet
      exact⟨B.heap.size,rfl,Below.setCell (Below.setCell T (p:=⟨B.heap.size,0,none⟩) N.size _) (p:=⟨B.heap.size,1,none⟩) N.size _,(s.set _).set _,(Xk (by omega) _).trans (aS s.row (by omega) _),aS (s.set _).row (by omega) _⟩
    case rest=>
     obtain⟨ab,rfl,Kd,f3,k6,k7⟩:=hcut;obtain⟨U,rfl⟩:=ah wc;have K7:=Kz (A.out.trans Kd);have k8:=Kz (f1.o.kept Kd);have b6:Hid (∀u,K_ U u->u.cell? ⟨w.heap.size,0,none⟩=some (.slice (some ⟨Y,nq,none⟩) f.length E)/\u.cell? ⟨w.heap.size+1,0,none⟩=some (.slice Q R S)/\u.cell? ⟨w.heap.size+1,1,none⟩=some (.slice (some ⟨G,H,none⟩) b.length I)/\u.cell? ⟨c2,5,none⟩=some (.int .i64 r.Zq)/\u.cell? ⟨ab,0,none⟩=some (.int .i64 y.cost)/\u.cell? ⟨ab,1,none⟩=some (.slice na y.steps.length nc)/\c2<u.heap.size/\ab<u.heap.size):=fun u F=>⟨(HC.o u (K7.out.trans F)).1,(HC.o u (K7.out.trans F)).2.1,(HC.o u (K7.out.trans F)).2.2.1,(k8.o.kept F).all.2.2.2.2.2.1,(F.cell f3.lt).trans k6,(F.cell f3.lt).trans k7,(k8.o.kept F).row.lt,(f3.kept F).lt⟩
     have k9:Hid ((U.alloc (.cells #[] 9)).ownsRow U.heap.size 9 1 (.slice (some ⟨U.heap.size,0,none⟩) 0 0) 0 (([]:List KC).map Value.string)):=Jz U #[] 0 (IZ _) (Ja _) rfl;have kE:K_ U (U.alloc (.cells #[] 9)):=ag _ _;obtain⟨ic,p1,e7,e8,p2⟩:=aO Tryz.dh;clear f3 k6 k7 Kd A a9 j6 j7 f1;go_wp2
     go_loopw [11,12,13] (fun p3 p4 h8 wr=>∃(m:Nat) (qo:KG) (qp:Nat),m<=K/\h8= .int .i64 ((m:Int)+1)/\p4= .int .i64 (aJ (Kk f) (Qq b) h m).1.at'/\p3= (.slice qo (aJ (Kk f) (Qq b) h m).2.length qp)/\Hid (wr.ownsRow U.heap.size 9 1 (.slice qo (aJ (Kk f) (Qq b) h m).2.length qp) (aJ (Kk f) (Qq b) h m).2.length ((aJ (Kk f) (Qq b) h m).2.map Value.string))/\K_ U wr) (fun _ _ h8 _=>K+1-(intOf h8).toNat)
     case atStart=>exact⟨0,some ⟨U.heap.size,0,none⟩,0,Ja _,rfl,rfl,rfl,k9,kE⟩
     case round=>
      clear k9 kE;obtain⟨m,qo,qp,hm,rfl,rfl,rfl,HO,M⟩:=hrel;obtain⟨d1,c1,d2,c4,a0,d3,l0,az⟩:=b6.o _ M;rw[o8.o] at c4;by_cases l1:m<K;rotate_left
      ·have t9:¬((m:Int)+1<=(K:Int)):=by omega
       have a1:Hid ((aJ (Kk f) (Qq b) h m).2=L):=by show _=_;rw[show m=K by omega,k4.o]
       have p5:Hid (Strs wr qo (aJ (Kk f) (Qq b) h m).2):=by
        obtain⟨da,v2,l2,p6⟩:=bi HO.o;simp only[JJ] at l2;rw[l2.1];exact p6
       clear l1;go_wp2
       go_ret
       exact⟨⟨qo,qp,by rw[a1.o];rfl,by rw[<-a1.o];exact p5.o⟩,n.o.trans (K7.out.trans M)⟩
      have v3:(m:Int)+1<=(K:Int):=by omega
      have d4:=Kz (c3.o m l1);have h9:=Kz (gU c6 b1 a6 (k:=m) (fun b7 hj=>c3.o b7 (by omega)));have f4:Hid ((aJ (Kk f) (Qq b) h m).1.Zq=m):=dR a6 (fun b7 hj=>c3.o b7 (by omega)) d4.o.1;have i0:Hid ((aJ (Kk f) (Qq b) h (m+1)).1.over=false):=by
       show _=_;by_cases e:m+1=K
       ·rw[e,k4.o];exact o9.o
       ·exact (c3.o (m+1) (by omega)).1
      have l3:=Kz (gU c6 b1 a6 (k:=m+1) (fun b7 hj=>c3.o b7 (by omega)));have p7:=mE c6 b1 a6 (k:=m) (fun b7 hj=>c3.o b7 (by omega));obtain⟨D,d5⟩:=ah ((aJ (Kk f) (Qq b) h m).1);obtain⟨X,f5⟩:=ah ((aJ (Kk f) (Qq b) h (m+1)).1);obtain⟨L0,i1⟩:=ah ((aJ (Kk f) (Qq b) h m).2);have p8:Hid (D.name=h):=by show _=_;rw[d5];exact fF m
      have c5:Hid (Kk f D.name=some ⟨y.cost,y.steps⟩):=by show _=_;rw[p8.o];exact g5.o
      have b8:Hid (X= (Xx (Kk f) (Qq b) D).1):=by show _=_;rw[f5,d5];rfl
      have p9:Hid ((aJ (Kk f) (Qq b) h (m+1)).2=L0++ (Xx (Kk f) (Qq b) D).2):=by show _=_;rw[i1,d5];rfl
      rw[<-d5] at d4 h9 f4⊢;rw[<-f5] at i0 l3;rw[<-i1] at p7 HO⊢;have q5:=Kz f5;clear d5 f5 i1;have q6:Hid ((Xx (Kk f) (Qq b) D).2= (stepOf ⟨y.cost,y.steps⟩ X.at').asks):=by show _=_;rw[b8.o];exact Ch c5.o d4.o (by rw[<-b8.o];exact i0.o)
      obtain⟨v4,v6⟩:0<=X.at'/\X.at' < y.steps.length:=by
       obtain⟨q7,d6,l,O⟩:=l3.o.act;rw[b8.o,bZ,c5.o] at d6;cases d6;rw[b8.o] at l O⊢;exact⟨l,O⟩
      obtain⟨l4,l5⟩:0<=D.at'/\D.at' < y.steps.length:=by
       obtain⟨q7,d6,l,O⟩:=h9.o.act;rw[c5.o] at d6;cases d6;exact⟨l,O⟩
      have l6:=Kz (F_ c5.o d4.o (by rw[<-b8.o];exact i0.o));go_upto_if 59 with fail
      go_cut [12,14,15] from 59 to 76 (fun q8 _ _ wx=>q8= .int .i64 X.at'/\K_ wr wx)
      case first=>
       by_cases l7:m=0
       ·have q9:¬((1:Int)<(m:Int)+1):=by omega
        have HE:Hid (D.at'=X.at'):=by
         show D.at'=X.at';rcases l6.o with⟨_,q⟩|⟨q,_⟩
         ·rw[b8.o,q]
         ·exact Ki (by rw[f4.o,l7];rfl) q
        clear l7;go_wp2_with fail
        rw[HE.o];go_meet
        exact⟨rfl,K_.refl _⟩
       ·have q9:(1:Int)<(m:Int)+1:=by omega
        obtain⟨V,i2,i3⟩:∃V,Yz (Kk f) (Qq b) (stepOf ⟨y.cost,y.steps⟩ D.at').asks=some V/\X.at'= (bR (stepOf ⟨y.cost,y.steps⟩ D.at') V).at':=by
         rcases l6.o with⟨q,_⟩|⟨_,V,l,O⟩
         ·rw[f4.o] at q;omega
         ·exact⟨V,l,by rw[b8.o];exact O⟩
        obtain⟨x,a5⟩:∃x:Nat,D.at'= (x:Int):=⟨D.at'.toNat,by omega⟩;have d7:x<y.steps.length:=by omega
        have g8:(x:Int)<(y.steps.length:Int):=by omega
        obtain⟨tb,tq,r0,rfl,a2,P,aa,ca,ac,cc,rfl,b9,l8,_⟩:=(Steps.kept g6.o (n.o.trans (K7.out.trans M))) x d7;obtain⟨t,hs⟩:=ah (y.steps.getD x Xq.zero);rw[<-hs] at P b9 l8;have t0:=P 0 _ rfl;have t1:=P 1 _ rfl;have t2:=P 2 _ rfl;have t3:=P 3 _ rfl;have t4:=P 4 _ rfl;have t5:=P 5 _ rfl;have t6:=P 6 _ rfl;have t7:=P 7 _ rfl;rw[JM] at t0;have f7:t∈y.steps:=by rw[hs];simp[List.getD,d7]
        have l9:=(e1 y e3 t f7).1;have r1:=(e1 y e3 t f7).2;have m0:=j2 y e3;have d8:Hid (stepOf ⟨y.cost,y.steps⟩ D.at'=t):=by show _=_;unfold stepOf;rw[a5,hs];rfl
        rw[d8.o] at i2 i3;have⟨f8,r2,i4,i5⟩:=jh i2 i3 b9 a5;rw[a5];have c0:Hid (∀w',K_ wr w'->w'.cell? ⟨w.heap.size,0,none⟩=some (.slice (some ⟨Y,nq,none⟩) f.length E)/\w'.cell? ⟨w.heap.size+1,0,none⟩=some (.slice Q R S)/\w'.cell? ⟨w.heap.size+1,1,none⟩=some (.slice (some ⟨G,H,none⟩) b.length I)/\w'.cell? ⟨ab,1,none⟩=some (.slice (some ⟨tb,tq,none⟩) y.steps.length nc)/\w'.cell? ⟨tb,tq+x*8,none⟩=some (.slice aa t.asks.length ca)/\w'.cell? ⟨tb,tq+x*8+1,none⟩=some (.int .i64 t.on)/\w'.cell? ⟨tb,tq+x*8+2,none⟩=some (.slice ac t.cases.length cc)/\w'.cell? ⟨tb,tq+x*8+3,none⟩=some (.int .i64 t.els)/\w'.cell? ⟨tb,tq+x*8+4,none⟩=some (.int .i64 t.fall)/\w'.cell? ⟨tb,tq+x*8+5,none⟩=some (.bool t.fin)/\w'.cell? ⟨tb,tq+x*8+6,none⟩=some (.bool t.bad)/\w'.cell? ⟨tb,tq+x*8+7,none⟩=some (.string t.give)):=fun w' K=>⟨(b6.o w' (M.trans K)).1,(b6.o w' (M.trans K)).2.1,(b6.o w' (M.trans K)).2.2.1,(b6.o w' (M.trans K)).2.2.2.2.2.1,(K.cell a2).trans t0,(K.cell a2).trans t1,(K.cell a2).trans t2,(K.cell a2).trans t3,(K.cell a2).trans t4,(K.cell a2).trans t5,(K.cell a2).trans t6,(K.cell a2).trans t7⟩
        clear P b9 l8 hs a5 i2 i3 t0 t1 t2 t3 t4 t5 t6 t7 a2 d1 c1 d2 c4 a0 d3;go_upto_region 14 with fail
        refine bS 13 c0.o fun B N j=>?_
        refine ae 0 j ?_;refine ae 1 j ?_;refine aB 3 j ?_;refine ae 7 j ?_;refine ai 2 (fun K c=>?_);go_simp
        go_at_call 77
        refine (j_ B (some ⟨Y,nq,none⟩) f.length E Q R S (some ⟨G,H,none⟩) b.length I).mono ?_;rintro e w1 ⟨kb,rfl,a7,k1⟩;have Z:=N.trans k1;have c7:=Kz a7;clear a7 k1;dsimp only;refine c.out _ _ (fun _=>c0.o _ Z) ?_;clear c K;try simp only[Act.put,upA,upB,upC]
        clear j;refine ai 8 (fun K c=>?_);go_simp
        go_at_call 79
        refine (kF w1 kb (some ⟨Y,nq,none⟩) E f (some ⟨G,H,none⟩) I b t aa ac ca cc d9 e0 l9 r1 c7.o (e5.o.kept (n.o.trans (K7.out.trans (M.trans Z)))) (e6.o.kept (n.o.trans (K7.out.trans (M.trans Z)))) (i4.o.kept Z)).mono ?_;rintro e w3 ⟨⟨r3,n3,r4,ok,rfl,m1,m2⟩,m3⟩;have k:=Z.trans m3;clear m3;obtain rfl:ok=true:=by cases ok with|true=>rfl|false=>rw[m2 rfl] at f8;cases f8.o
        obtain⟨r5,m4,rfl,m5⟩:=m1 rfl;obtain rfl:V=r5:=Option.some.inj (f8.o.symm.trans m4);have r6:=Kz m5;clear m1 m2 m4 m5;dsimp only;refine c.out _ _ (fun _=>c0.o _ k) ?_;clear c K;try simp only[Act.put,upA,upB,upC]
        refine af 9 (fun K c=>?_);go_simp
        refine c.out _ _ (fun _=>c0.o _ k) ?_;clear c K;try simp only[Act.put,upA,upB,upC]
        have j:=c0.o _ k;refine ae 10 j ?_;refine ae 11 j ?_;refine af 12 (fun K c=>?_);go_simp
        refine c.out _ _ (fun _=>c0.o _ k) ?_;clear c K;try simp only[Act.put,upA,upB,upC]
        refine af 13 (fun K c=>?_);go_simp
        refine c.out _ _ (fun q=>Ki rfl q) ?_;clear c K;try simp only[Act.put,upA,upB,upC]
        refine ay ?_;have i6:=(c6 _ _ c5.o).1;obtain⟨m6,i7⟩:=gD i6 l4 l5;rw[d8.o] at m6 i7;have m7:∀i8∈t.asks,i8.size<=20:=fun i8 hn=>(i7 i8 hn).2.1
        obtain⟨i9,m8⟩:=jN b1 m7 f8.o;have v7:V.length<=5:=by rw[i9.1];exact m6
        have m9:D.Zq≠0:=by rw[f4.o];omega
        have HW:Hid (jb y.cost y.steps D.at' V (bR t V)):= .inr ⟨⟨i6,⟨l4,l5⟩,h9.o.stp _ c5.o d4.o.1 m9⟩,by have e:iE y.steps D.at'=t:=d8.o;rw[e];exact gu i9⟩;have r7:V.length<=maxLen:=by unfold maxLen;omega
        have r8:∀j0∈V,j0.text.size<=maxLen:=fun j0 hc=>by have:=m8 j0 hc;unfold maxLen;omega
        obtain⟨d1,c1,d2,c4,a0,d3,v8,v9⟩:=b6.o _ (M.trans k);clear i6 i7 m7 i9 m8 m9 j c0 N Z c7;go_wp2_with fail
        refine (ma _ y.cost (x:Int) (some ⟨tb,tq,none⟩) r3 nc r4 y.steps V m0.steps m0.each (Steps.kept g6.o (n.o.trans (K7.out.trans (M.trans k)))) r7 r8 r6.o).mono ?_;rintro e w5 ⟨⟨n0,rfl,hG⟩,k5⟩;have n1:n0=bR t V:=hG.unique (by have q:=HW.o;rw[i5.o] at q;exact q);obtain⟨gc,go,gt,gx⟩:=n0;have c8:(bN.mk gc go gt gx).cells.toArray= #[.int .i64 gc,.bool go,.int .i64 gt,.string gx]:=rfl;rw[c8];have r9:Hid (gt=X.at'):=by show _=_;rw[r2.o,<-n1]
        clear c8 hG n1 d1 c1 d2 c4 a0 d3;have w0:(Instr.field 135 (.agg #[.int .i64 gc,.bool go,.int .i64 gt,.string gx]) 2).run prog w5= .ok (.int .i64 gt) w5:=by kernel_rfl
        go_wp2_with fail
        rw[r9.o];go_meet
        exact⟨rfl,k.trans k5⟩
      case rest=>
       obtain⟨rfl,Kx⟩:=hcut;obtain⟨wx,rfl⟩:=ah wc;have n2:=Kz (aj HO.o Kx);clear d1 c1 d2 c4 a0 d3 l0 az HO;obtain⟨d1,c1,d2,c4,a0,d3,l0,az⟩:=b6.o _ (M.trans Kx);obtain⟨x,a5⟩:∃x:Nat,X.at'= (x:Int):=⟨X.at'.toNat,by omega⟩;have d7:x<y.steps.length:=by omega
       have g8:(x:Int)<(y.steps.length:Int):=by omega
       obtain⟨tb,tq,r0,rfl,a2,P,aa,ca,ac,cc,rfl,b9,_,_⟩:=(Steps.kept g6.o (n.o.trans (K7.out.trans (M.trans Kx)))) x d7;obtain⟨t,hs⟩:=ah (y.steps.getD x Xq.zero);rw[<-hs] at P b9;have t0:=P 0 _ rfl;rw[JM] at t0;have f7:t∈y.steps:=by rw[hs];simp[List.getD,d7]
       have l9:=(e1 y e3 t f7).1;have d8:Hid (stepOf ⟨y.cost,y.steps⟩ X.at'=t):=by show _=_;unfold stepOf;rw[a5,hs];rfl
       have⟨i4,i5⟩:=aD b9 a5;have s2:U.heap.size<=wx.heap.size:=(M.trans Kx).size;rw[a5];clear P b9 hs a5;go_wp2_with (at_builtin;refine bP rfl (.tmp 77) (.tmp 83) 26 rfl U.heap.size 9 ic _ 16 underlying26 p1 e7 e8 p2 rfl (.slice qo L0.length qp) L0.length (L0.map Value.string) rfl n2.o aa ca t.asks rfl i4.o (by unfold maxLen;omega) (by omega) s2 ?_;intro vA wA j1 n4 s3;obtain⟨s4,s5,rfl⟩:=ax j1;have s6:=Kz j1;have KA:K_ U wA:=aF (M.trans Kx) (IZ _) n2.o n4;clear j1 n4 s3)
       have a1:Hid ((aJ (Kk f) (Qq b) h (m+1)).2=L0++t.asks):=by show _=_;rw[p9.o,q6.o,d8.o]
       go_roundw
       case rel=>exact⟨m+1,s4,s5,by omega,by go_num,by rw[<-q5.o,i5.o],by rw[a1.o,JH],Kz (by rw[a1.o,JH,Km];exact s6.o),KA⟩
       case measure=>simp[intOf];omega
  ·rw[a4] at q1;have w6:(r.Zq == 0)=false:=by have:=HT.o.Az (by rw[b4.o];exact a6) a4;simpa using this
   have a1:=Kz (k0.o a4);go_wp2
   go_ret
   exact⟨⟨qa,qc,by rw[a1.o];rfl,by rw[<-a1.o];exact k3.o⟩,n.o.trans A.out⟩
theorem za{w:KH}{base base':Nat}{e:TypeId}{size n:Nat}{v:KI}{a:List KI}(h:w.ownsRow base e size v n a)(b:base'<=base):w.ownsRow base' e size v n a:=by
 refine⟨h.1, ?_⟩;rcases h.2 with c|⟨g,d,f,i,j,k⟩
 ·exact .inl c
 ·exact .inr ⟨g,d,f,i,Jb b j,k⟩
def EY(w w':KH)(v v':KI)(l r:List KC):Prop:=∀B,B<=w.heap.size->w.ownsRow B 9 1 v l.length (l.map Value.string)->w'.ownsRow B 9 1 v' r.length (r.map Value.string)
theorem CZ(w:KH)(b o j:Nat)(l:List KC)(x:KC)(hl:l.length<=100000)(e5:l.length<=j)(ha:lH l)(Q:Strs w (some ⟨b,o,none⟩) l):
  Calls prog 39 #[.slice (some ⟨b,o,none⟩) l.length j,.string x] w fun e w'=>∃q s c' r,e= .returned (.slice (some ⟨q,s,none⟩) r.length c')/\r.length<=c'/\Ef l x r/\Strs w' (some ⟨q,s,none⟩) r/\EY w w' (.slice (some ⟨b,o,none⟩) l.length j) (.slice (some ⟨q,s,none⟩) r.length c') l r/\K_ w w':=by
 have HA:=Kz ha;clear ha;go_enter func39,ntmps39
 go_wp2
 go_loop [5] (fun p=>∃k:Nat,k<=l.length/\p= .int .i64 k/\Hid (∀v∈l.take k,bU v x)) (fun p=>l.length-(intOf p).toNat)
 case atStart=>exact⟨0,Ja _,rfl,Kz fun v S=>by cases S⟩
 case round=>
  obtain⟨k,hk,rfl,T⟩:=hrel;by_cases R:k<l.length
  ·obtain⟨b1,o1,U,hb,hc⟩:=Q k R;cases U;obtain⟨v,S⟩:=ah (l.getD k ByteArray.empty);rw[<-S] at hc;have d9:l[k]=v:=by rw[S];simp[List.getD,R]
   have HY:=Kz d9;clear S d9;have f5:(k:Int)<(l.length:Int):=by omega
   cases e0:(Op.bytesLess v.toList x.toList)
   ·have a9:=Kz e0;cases e1:(v.toList == x.toList)
    ·have b0:=Kz e1;have V:Hid (∀z∈l.drop k,bU x z):=fun z i=>by
      have e3:bU x v:=by
       rcases iT x v with g|g|g
       ·exact g
       ·exact Ki g.symm (kZ b0.o)
       ·unfold bU at g;rw[a9.o] at g;cases g
      rw[List.drop_eq_getElem_cons R,HY.o] at i;rcases JN.1 i with rfl|i
      ·exact e3
      ·obtain⟨e6,hj,rfl⟩:=Jk i;rw[List.getElem_drop];have h2:=Jj.1 HA.o k (k+1+e6) R (by simp at hj;omega) (by omega);rw[HY.o] at h2;exact f_ e3 h2
     have b2:Hid (x∉l):=fun h=>by
      rw[<-JY k l] at h;rcases Jh.1 h with h|h
      ·exact bH x (T.o x h)
      ·exact bH x (V.o x h)
     obtain⟨a,c,m,b3⟩:∃a c,l=a++c/\k=a.length:=⟨l.take k,l.drop k,(JY k l).symm,by simp;omega⟩;subst b3;have b4:Hid (Ef l x (a++x :: c)):=by
      have U:l.take a.length=a:=by rw[m];simp
      have e2:l.drop a.length=c:=by rw[m];simp
      refine .inr ⟨b2.o,a.length,hk,by rw[U,e2],T.o,V.o⟩
     have b5:l.length=a.length+c.length:=by rw[m,JH]
     have b6:Hid (∀W,K_ w W->Strs W (some ⟨b,o,none⟩) a):=fun W K p X=>by
      obtain⟨q,s,y,A,B⟩:=(Q.kept K) p (by omega);refine⟨q,s,y,A, ?_⟩;rw[B,m];simp[List.getD,JU X]
     have Y:Hid (∀W,K_ w W->Strs W (if j=a.length then (some ⟨b,o,none⟩:KG) else some ⟨b,o+a.length,none⟩) c):=fun W K p X=>by
      obtain⟨q,s,y,A,B⟩:=(Q.kept K) (a.length+p) (by omega);cases y;rw[Kh (by omega)];refine⟨b,o+a.length,rfl,A, ?_⟩;rw[Nat.add_assoc,B,m];simp[List.getD,JV]
     have Z:l.length-a.length=c.length:=by omega
     have e7:a.length<=j:=by omega
     have e8:a.length<=l.length:=by omega
     have e9:a.length<=100000:=by omega
     have f0:c.length<=100000:=by omega
     have b7:=Kz Z;obtain⟨C,D,E,F,G⟩:=aO Tryz.dh;have a0:Hid ((w.alloc (.cells #[] 9)).ownsRow w.heap.size 9 1 (.slice (some ⟨w.heap.size,0,none⟩) 0 0) 0 (([]:List KC).map Value.string)):=Jz w #[] 0 (IZ _) (Ja _) rfl;have b8:w.heap.size<=(w.alloc (.cells #[] 9)).heap.size:=by simp
     have a1:Hid (K_ w (w.alloc (.cells #[] 9))):=ag _ _;clear m b5 Z;go_upto_region 7 with (at_builtin;refine bP rfl (.tmp 34) (.tmp 37) 26 rfl w.heap.size 9 C _ 16 underlying26 D E F G rfl (.slice (some ⟨w.heap.size,0,none⟩) 0 0) 0 (([]:List KC).map Value.string) rfl a0.o (some ⟨b,o,none⟩) j a rfl (b6.o _ a1.o) (by unfold maxLen;omega) (by omega) b8 ?_;intro v1 w1 t a2 b9;rw[JA] at t;have c0:=Kz t;have c1:=aF a1.o (IZ _) a0.o a2;obtain⟨c2,c3,rfl⟩:=ax t;clear t a2 b9)
     refine Qk.region (by kernel_rfl) (fun _=>True) 8 trivial (fun n=>?_);have KD:K_ w1 w1.drew:=aG w1;generalize c4:w1.drew=f at KD⊢;clear c4;refine ae 0 n ?_;refine ae 1 n ?_;refine ae 4 n ?_;refine ae 5 n ?_;refine ae 6 n ?_;generalize hgd:(if j=a.length then (some ⟨b,o,none⟩:KG) else some ⟨b,o+a.length,none⟩)=c5 at Y⊢;clear hgd;refine af 2 (fun K d=>?_);go_simp
     have K5:K_ f (f.alloc (.cells #[.string x] 9)):=ag _ _;have H:Hid (Strs (f.alloc (.cells #[.string x] 9)) (some ⟨f.heap.size,0,none⟩) [x]):=fun c6 hq=>by
      obtain rfl:c6=0:=by simpa using hq
      exact⟨f.heap.size,0,rfl,by simp,X_ f #[.string x] 9 0 _ rfl⟩
     refine d.out _ _ (fun _=>trivial) ?_;clear d K n;have I:=KD.trans K5;have J:=Kz (aj c0.o I);obtain⟨eb,a3⟩:=ah f.heap.size;rw[<-a3] at H⊢;generalize c7:f.alloc (.cells #[.string x] 9)=w5 at H I J⊢;clear c7 K5 a3;have a4:=c1.trans I;have c8:=a4.size;try simp only[Act.put,upA,upB,upC]
     refine ai 3 (fun K d=>?_);refine dY (.tmp 39) (.tmp 41) 26 rfl w.heap.size 9 C _ 16 underlying26 D E F G rfl (.slice c2 a.length c3) a.length (([]:List KC).map Value.string++a.map Value.string) rfl J.o (some ⟨eb,0,none⟩) 1 [x] rfl H.o (by unfold maxLen;simp;omega) (by simp;omega) c8 ?_;intro v6 w6 L a5 c9;have a6:=Kz L;have M:=aF a4 (IZ _) J.o a5;obtain⟨d0,d1,rfl⟩:=ax L;have d2:=M.size;refine d.out _ _ (fun _=>trivial) ?_;clear d K L a5 c9;try simp only[Act.put,upA,upB,upC]
     refine ai 7 (fun K d=>?_);refine dY (.tmp 42) (.tmp 45) 26 rfl w.heap.size 9 C _ 16 underlying26 D E F G rfl (.slice d0 (a.length+ [x].length) d1) (a.length+ [x].length) ((([]:List KC).map Value.string++a.map Value.string)++ [x].map Value.string) rfl a6.o c5 (j-a.length) c (by rw[<-b7.o];rfl) (Y.o _ M) (by unfold maxLen;simp;omega) (by simp;omega) d2 ?_;intro v7 w7 a7 a8 d3;have d4:=Kz a7;have d5:=aF M (IZ _) a6.o a8;refine d.out _ _ (fun _=>trivial) ?_;clear d K a7 a8 d3;try simp only[Act.put,upA,upB,upC]
     refine af 8 (fun K d=>?_);go_simp
     refine d.out _ _ (fun h=>Ki rfl h) ?_;clear d K;try simp only[Act.put,upA,upB,upC]
     refine ay ?_;go_wp2
     go_ret
     have d6:(a++x :: c).length=a.length+ [x].length+c.length:=by simp;omega
     have N:w7.ownsRow w.heap.size 9 1 v7 (a++x :: c).length ((a++x :: c).map Value.string):=by
      have h:=d4.o;rw[d6];have e:(a++x :: c).map Value.string= ((([]:List KC).map Value.string++a.map Value.string)++ [x].map Value.string)++c.map Value.string:=by simp
      rw[e];exact h
     rcases N.2 with⟨_,h0⟩|⟨g,d7,f1,O,_,_,d8,_,_,_⟩
     ·simp at h0
     ·obtain⟨f2,f3,P,h9⟩:=bi N;rw[O] at P;simp only[JJ,true_and] at P;rw[<-P.1] at h9;exact⟨g,0,d7,_,by rw[O];rfl,d8,b4.o,h9,fun f4 hB _=>by rw[<-O];exact za N hB,d5⟩
    ·have b0:=Kz (fu e1);go_wp2
     go_ret
     exact⟨b,o,j,l,rfl,e5,.inl ⟨by rw[<-b0.o,<-HY.o];exact Ji R,rfl⟩,Q,fun _ _ h=>h,K_.refl _⟩
   ·have a9:=Kz e0;go_wp2
    go_round
    case rel=>
     refine⟨k+1,by omega,by go_num,Kz fun z i=>?_⟩;rw[Jf R] at i;rcases Jh.1 i with i | i
     ·exact T.o z i
     ·rw[Jg,HY.o] at i;rw[i];exact a9.o
    case measure=>simp[intOf];omega
  ·have e4:k=l.length:=by omega
   have V:Hid (∀z∈l.drop k,bU x z):=fun z i=>by rw[e4,List.drop_length] at i;cases i
   have b2:Hid (x∉l):=fun h=>by
    rw[<-JY k l] at h;rcases Jh.1 h with h|h
    ·exact bH x (T.o x h)
    ·exact bH x (V.o x h)
   obtain⟨a,c,m,b3⟩:∃a c,l=a++c/\k=a.length:=⟨l.take k,l.drop k,(JY k l).symm,by simp;omega⟩;subst b3;have b4:Hid (Ef l x (a++x :: c)):=by
    have U:l.take a.length=a:=by rw[m];simp
    have e2:l.drop a.length=c:=by rw[m];simp
    refine .inr ⟨b2.o,a.length,hk,by rw[U,e2],T.o,V.o⟩
   have b5:l.length=a.length+c.length:=by rw[m,JH]
   have b6:Hid (∀W,K_ w W->Strs W (some ⟨b,o,none⟩) a):=fun W K p X=>by
    obtain⟨q,s,y,A,B⟩:=(Q.kept K) p (by omega);refine⟨q,s,y,A, ?_⟩;rw[B,m];simp[List.getD,JU X]
   have Y:Hid (∀W,K_ w W->Strs W (if j=a.length then (some ⟨b,o,none⟩:KG) else some ⟨b,o+a.length,none⟩) c):=fun W K p X=>by
    obtain⟨q,s,y,A,B⟩:=(Q.kept K) (a.length+p) (by omega);cases y;rw[Kh (by omega)];refine⟨b,o+a.length,rfl,A, ?_⟩;rw[Nat.add_assoc,B,m];simp[List.getD,JV]
   have Z:l.length-a.length=c.length:=by omega
   have e7:a.length<=j:=by omega
   have e8:a.length<=l.length:=by omega
   have e9:a.length<=100000:=by omega
   have f0:c.length<=100000:=by omega
   have b7:=Kz Z;obtain⟨C,D,E,F,G⟩:=aO Tryz.dh;have a0:Hid ((w.alloc (.cells #[] 9)).ownsRow w.heap.size 9 1 (.slice (some ⟨w.heap.size,0,none⟩) 0 0) 0 (([]:List KC).map Value.string)):=Jz w #[] 0 (IZ _) (Ja _) rfl;have b8:w.heap.size<=(w.alloc (.cells #[] 9)).heap.size:=by simp
   have a1:Hid (K_ w (w.alloc (.cells #[] 9))):=ag _ _;clear m b5 Z e4;go_upto_region 7 with (at_builtin;refine bP rfl (.tmp 34) (.tmp 37) 26 rfl w.heap.size 9 C _ 16 underlying26 D E F G rfl (.slice (some ⟨w.heap.size,0,none⟩) 0 0) 0 (([]:List KC).map Value.string) rfl a0.o (some ⟨b,o,none⟩) j a rfl (b6.o _ a1.o) (by unfold maxLen;omega) (by omega) b8 ?_;intro v1 w1 t a2 b9;rw[JA] at t;have c0:=Kz t;have c1:=aF a1.o (IZ _) a0.o a2;obtain⟨c2,c3,rfl⟩:=ax t;clear t a2 b9)
   refine Qk.region (by kernel_rfl) (fun _=>True) 8 trivial (fun n=>?_);have KD:K_ w1 w1.drew:=aG w1;generalize c4:w1.drew=f at KD⊢;clear c4;refine ae 0 n ?_;refine ae 1 n ?_;refine ae 4 n ?_;refine ae 5 n ?_;refine ae 6 n ?_;generalize hgd:(if j=a.length then (some ⟨b,o,none⟩:KG) else some ⟨b,o+a.length,none⟩)=c5 at Y⊢;clear hgd;refine af 2 (fun K d=>?_);go_simp
   have K5:K_ f (f.alloc (.cells #[.string x] 9)):=ag _ _;have H:Hid (Strs (f.alloc (.cells #[.string x] 9)) (some ⟨f.heap.size,0,none⟩) [x]):=fun c6 hq=>by
    obtain rfl:c6=0:=by simpa using hq
    exact⟨f.heap.size,0,rfl,by simp,X_ f #[.string x] 9 0 _ rfl⟩
   refine d.out _ _ (fun _=>trivial) ?_;clear d K n;have I:=KD.trans K5;have J:=Kz (aj c0.o I);obtain⟨eb,a3⟩:=ah f.heap.size;rw[<-a3] at H⊢;generalize c7:f.alloc (.cells #[.string x] 9)=w5 at H I J⊢;clear c7 K5 a3;have a4:=c1.trans I;have c8:=a4.size;try simp only[Act.put,upA,upB,upC]
   refine ai 3 (fun K d=>?_);refine dY (.tmp 39) (.tmp 41) 26 rfl w.heap.size 9 C _ 16 underlying26 D E F G rfl (.slice c2 a.length c3) a.length (([]:List KC).map Value.string++a.map Value.string) rfl J.o (some ⟨eb,0,none⟩) 1 [x] rfl H.o (by unfold maxLen;simp;omega) (by simp;omega) c8 ?_;intro v6 w6 L a5 c9;have a6:=Kz L;have M:=aF a4 (IZ _) J.o a5;obtain⟨d0,d1,rfl⟩:=ax L;have d2:=M.size;refine d.out _ _ (fun _=>trivial) ?_;clear d K L a5 c9;try simp only[Act.put,upA,upB,upC]
   refine ai 7 (fun K d=>?_);refine dY (.tmp 42) (.tmp 45) 26 rfl w.heap.size 9 C _ 16 underlying26 D E F G rfl (.slice d0 (a.length+ [x].length) d1) (a.length+ [x].length) ((([]:List KC).map Value.string++a.map Value.string)++ [x].map Value.string) rfl a6.o c5 (j-a.length) c (by rw[<-b7.o];rfl) (Y.o _ M) (by unfold maxLen;simp;omega) (by simp;omega) d2 ?_;intro v7 w7 a7 a8 d3;have d4:=Kz a7;have d5:=aF M (IZ _) a6.o a8;refine d.out _ _ (fun _=>trivial) ?_;clear d K a7 a8 d3;try simp only[Act.put,upA,upB,upC]
   refine af 8 (fun K d=>?_);go_simp
   refine d.out _ _ (fun h=>Ki rfl h) ?_;clear d K;try simp only[Act.put,upA,upB,upC]
   refine ay ?_;go_wp2
   go_ret
   have d6:(a++x :: c).length=a.length+ [x].length+c.length:=by simp;omega
   have N:w7.ownsRow w.heap.size 9 1 v7 (a++x :: c).length ((a++x :: c).map Value.string):=by
    have h:=d4.o;rw[d6];have e:(a++x :: c).map Value.string= ((([]:List KC).map Value.string++a.map Value.string)++ [x].map Value.string)++c.map Value.string:=by simp
    rw[e];exact h
   rcases N.2 with⟨_,h0⟩|⟨g,d7,f1,O,_,_,d8,_,_,_⟩
   ·simp at h0
   ·obtain⟨f2,f3,P,h9⟩:=bi N;rw[O] at P;simp only[JJ,true_and] at P;rw[<-P.1] at h9;exact⟨g,0,d7,_,by rw[O];rfl,d8,b4.o,h9,fun f4 hB _=>by rw[<-O];exact za N hB,d5⟩
theorem wD(w:KH)(b o f:Nat)(l:List KC)(x:KC)(h:l.length<=100000)(i:l.length<=f)(j:lH l)(k:Strs w (some ⟨b,o,none⟩) l):
  Calls prog 39 #[.slice (some ⟨b,o,none⟩) l.length f,.string x] w fun e w'=>∃a c d r,e= .returned (.slice (some ⟨a,c,none⟩) r.length d)/\r.length<=d/\Ef l x r/\Strs w' (some ⟨a,c,none⟩) r/\K_ w w':=
 (CZ w b o f l x h i j k).mono fun _e _w' ⟨a,c,d,r,m,n,p,q,_,s⟩=>⟨a,c,d,r,m,n,p,q,s⟩
def Fv(Kq:List Qz)(Kj:List KC)(sl:List Q_)(name:KC)(w':KH)(e:Ending):Prop:=
 ∃(da:KG) (c:Nat) (ns:List KC),e= .returned (.slice da ns.length c)/\Strs w' da ns/\iA Kq Kj sl name ns
theorem Dt{c:List Qz}{a:List Q_}(x y:KC)(h:gF (Kk c) (Qq a) x y):x∈a.map (·.name):=by
 obtain⟨r,_,f,_⟩:=h;have b:=bC f;rw[<-b.2];exact Ju.2 ⟨r,b.1,rfl⟩
def IP(Kq:List Qz)(sl:List Q_)(name:KC)(out:List KC)(bg:Bool):Prop:=ow (gF (Kk Kq) (Qq sl)) (sl.map (·.name)) name out.length [] out false/\(bg=false->pE (gF (Kk Kq) (Qq sl)) (sl.map (·.name)) name out)
theorem yH(w:KH)(a:KG)(A:Nat)(f:List Qz)(B:KG)(E:Nat)(Kj:List KC)(d:KG)(F:Nat)(b:List Q_)(m:KC)(d4:f.length<=1048576)(d5:∀y∈f,y.Fits)(f4:Kj.length<=1048576)(f5:∀s∈Kj,s.size<=maxLen)(f6:b.length<=1048576)(f7:∀x∈b,x.texts.length<=1048576)
  (hN:bY w a f) (hS:bK w d b) (hR:Strs w B Kj):
  Calls prog 17 #[.agg #[.slice a f.length A],.agg #[.slice B Kj.length E,.slice d b.length F],.string m] w fun e w'=>Fv f Kj b m w' e/\K_ w w':=by
 obtain⟨p,M⟩:=ah ((w.alloc (.cells #[.slice a f.length A] 25)).alloc (.cells #[.slice B Kj.length E,.slice d b.length F] 29));have kB:K_ w p:=by rw[M];exact (ag _ _).alloc _
 have f8:p.heap.size=w.heap.size+2:=by rw[M];simp
 have b0:p.cell? ⟨w.heap.size,0,none⟩=some (.slice a f.length A):=by rw[M,K_.cell (w:=w.alloc (.cells #[.slice a f.length A] 25)) (ag _ _) (by simp)];exact X_ w _ _ 0 _ rfl
 have s0:p.cell? ⟨w.heap.size+1,0,none⟩=some (.slice B Kj.length E):=by have:=X_ (w.alloc (.cells #[.slice a f.length A] 25)) #[.slice B Kj.length E,.slice d b.length F] 29 0 _ rfl;rw[JG] at this;rw[M];exact this
 have s1:p.cell? ⟨w.heap.size+1,1,none⟩=some (.slice d b.length F):=by have:=X_ (w.alloc (.cells #[.slice a f.length A] 25)) #[.slice B Kj.length E,.slice d b.length F] 29 1 _ rfl;rw[JG] at this;rw[M];exact this
 have z0:w.heap.size<p.heap.size:=by omega
 have z1:w.heap.size+1<p.heap.size:=by omega
 have P:Hid (∀w',K_ p w'->w'.cell? ⟨w.heap.size,0,none⟩=some (.slice a f.length A)/\w'.cell? ⟨w.heap.size+1,0,none⟩=some (.slice B Kj.length E)/\w'.cell? ⟨w.heap.size+1,1,none⟩=some (.slice d b.length F)/\w.heap.size<w'.heap.size/\w.heap.size+1<w'.heap.size):=fun w' K=>⟨(K.cell z0).trans b0,(K.cell z1).trans s0,(K.cell z1).trans s1,I_ z0 K.size,I_ z1 K.size⟩
 have I:=Kz kB;have a7:Hid (Strs (p.alloc (.cells #[] 9)) (some ⟨p.heap.size,0,none⟩) []):=fun i hi=>by cases hi
 have N:K_ p (p.alloc (.cells #[] 9)):=ag _ _;clear kB f8 b0 s0 s1;go_enter func17,ntmps17
 go_upto_region 1 with fail
 rw[<-M];clear M;go_upto_region 2 with fail
 obtain⟨WE,d6⟩:=ah (p.alloc (.cells #[] 9));rw[<-d6] at N a7⊢;clear d6;obtain⟨eb,d7⟩:=ah p.heap.size;rw[<-d7] at a7⊢;clear d7;obtain⟨b0,s0,s1,_,_⟩:=P.o _ N;go_wp2_with fail
 refine (jM _ a A f B E Kj d F b d4 d5 f4 f5 f6 f7 (hN.kept (I.o.trans N)) (hS.kept (I.o.trans N)) (hR.kept (I.o.trans N))).mono ?_;rintro e w1 ⟨⟨bv,rfl,hv⟩,k1⟩;have HV:=Kz hv;have C:=N.trans k1;have b3:=Kz (a7.o.kept k1);clear hv b0 s0 s1 z0 z1 N a7;cases bv
 ·go_wp2
  go_ret
  exact⟨⟨some ⟨eb,0,none⟩,0,[],rfl,b3.o,Ja _,.inr ⟨fun h=>(by have:=HV.o.2 h;cases this),rfl⟩⟩,I.o.trans C⟩
 have Q:=Kz (HV.o.1 rfl);have⟨O,d8⟩:=aD Q.o.good Q.o.IX;have b4:=dL Q.o.1;have f9:=lw Q.o.1;have h2:b.length<=60:=Jb O.o.len (kI Q.o.1);clear HV;go_wp2
 go_loopg [7,8] 121 (fun gg T U wr=>∃(c:Bool) (l o j:Nat) (out:List KC),U= .bool c/\T= .slice (some ⟨l,o,none⟩) out.length j/\gg=2*(60-out.length)+c.toNat/\out.length<=j/\Hid (Strs wr (some ⟨l,o,none⟩) out)/\Hid (IP f b m out c)/\K_ w1 wr)
 case atStart=>exact⟨true,eb,0,0,[],rfl,rfl,rfl,IZ _,b3,Kz ⟨ow.start _ _ _ List.Pairwise.nil (fun s hs=>by cases hs),fun h=>by cases h⟩,K_.refl _⟩
 case round=>
  clear b3;obtain⟨c,l,o,j,out,rfl,rfl,d9,t,n,HO,q⟩:=hrel;have a8:out.length<=60:=by have h:=HO.o.1.len;rw[J_] at h;omega
  cases c
  ·have g0:=Kz (HO.o.2 rfl);go_wp2
   go_ret
   exact⟨⟨_,j,out,rfl,n.o,a8,.inl ⟨Q.o,g0.o⟩⟩,I.o.trans (C.trans q)⟩
  have b5:=Kz HO.o.1;obtain⟨r,b6⟩:=ah out.length;rw[<-b6] at b5;have b7:=Kz b6;clear b6 HO;have h4:gk=2*(60-r)+1:=by rw[b7.o];exact d9
  obtain⟨wo,rfl⟩:=ah wr;have h5:r<=60:=by rw[b7.o];exact a8
  clear d9;go_upto_region 8 with fail
  go_loopw [7,8,9] (fun T U x9 wr=>∃(c:Bool) (i l o j:Nat) (out:List KC),i<=b.length/\x9= .int .i64 (i:Int)/\U= .bool c/\T= .slice (some ⟨l,o,none⟩) out.length j/\out.length<=j/\Hid (Strs wr (some ⟨l,o,none⟩) out)/\Hid (ow (gF (Kk f) (Qq b)) (b.map (·.name)) m r ((b.take i).map (·.name)) out c)/\K_ w1 wr) (fun _ _ x9 _=>b.length-(intOf x9).toNat)
  case atStart=>exact⟨false,0,l,o,j,out,Ja _,rfl,rfl,rfl,t,n,b5,q⟩
  case round=>
   clear n b5 b7 q;obtain⟨c,i,l,o,j,out,hi,rfl,rfl,rfl,t,n,HI,q⟩:=hrel;obtain⟨c0,c1,c2,y0,y1⟩:=P.o _ (C.trans q);have a8:out.length<=60:=by have h:=HI.o.len;rw[J_] at h;omega
   by_cases G:i<b.length;rotate_left
   ·have h6:¬((i:Int)<(b.length:Int)):=by omega
    have V:Hid (ow (gF (Kk f) (Qq b)) (b.map (·.name)) m r (b.map (·.name)) out c):=by have h:=HI.o;rw[show i=b.length by omega,JB] at h;exact h
    have g1:Hid (IP f b m out c):=⟨ow.start _ _ _ V.o.asc V.o.sub,fun hb=>by subst hb;exact V.o.whole Dt⟩;have g2:c=true->r<out.length:=V.o.gr;have h7:=V.o.le;clear G;go_wp2
    go_roundg (2*(60-out.length)+c.toNat)
    case measure=>
     cases c
     ·simp;omega
     ·have:=g2 rfl;simp;omega
    case rel=>exact⟨c,l,o,j,out,rfl,rfl,rfl,t,n,g1,q⟩
   have h8:(i:Int)<(b.length:Int):=by omega
   obtain⟨W,ro,xa,xc,e1,e0,e2,_,_⟩:=(hS.kept (I.o.trans (C.trans q))) i G;subst e1;obtain⟨x,X⟩:=ah ((b.getD i Q_.zero).name);have t0:=e2 0 _ rfl;rw[JM] at t0;have e3:wr.cell? ⟨W,ro+i*7,none⟩=some (.string x):=by rw[X];exact t0
   clear t0 e2;have g3:Hid ((b.take (i+1)).map (·.name)= (b.take i).map (·.name)++ [x]):=by
    show _=_;rw[Jf G,Km,X];simp[List.getD,G]
   have R:Qq b x=some b[i]:=by
    have h:=bn O.o.asc (Ji G);rw[X];simpa[List.getD,G] using h
   have e4:Hid (x∈(b.map (·.name))):=by show _∈_;rw[X];exact Ju.2 ⟨b[i],Ji G,by simp[List.getD,G]⟩
   obtain⟨asks,Y⟩:=(d8.o x _ R).2;have g4:=(d8.o x _ R).1;have a9:(Kk f b[i].name).isSome=true:=by obtain⟨h9,hA,_⟩:=(O.o.good _ (Ji G)).act;rw[hA];rfl
   have HE:Hid (∀y,y∈asks↔gF (Kk f) (Qq b) x y):=wV R a9 Y;have g5:Hid (asks.length<=1000):=by
    show asks.length<=1000;obtain⟨kk,g6,J⟩:=Y;have h3:=mE b4 O.o.env a9 J;have i0:=yG b4 O.o.env a9 J;rw[g6] at h3;dsimp only at h3;omega
   obtain⟨rx,e5⟩:=ah (b[i]);rw[<-e5] at R Y;have⟨g7,g8⟩:=aD R Y;have b8:Hid (∀u,K_ wr u->(u.cell? ⟨w.heap.size,0,none⟩=some (.slice a f.length A)/\u.cell? ⟨w.heap.size+1,0,none⟩=some (.slice B Kj.length E)/\u.cell? ⟨w.heap.size+1,1,none⟩=some (.slice (some ⟨W,ro,none⟩) b.length F)/\u.cell? ⟨W,ro+i*7,none⟩=some (.string x))):=fun u K=>⟨(P.o u (C.trans (q.trans K))).1,(P.o u (C.trans (q.trans K))).2.1,(P.o u (C.trans (q.trans K))).2.2.1,(K.cell e0).trans e3⟩
   clear X e3 R Y e5 a9 g4;go_upto_region 10 with fail
   clear c0 c1 c2;refine bS 9 b8.o fun wd KD b9=>?_
   refine aB 0 b9 ?_;refine aB 4 b9 ?_;refine ai 8 (fun K Z=>?_);go_simp
   go_at_call 45
   refine (zQ wd a A f B Kj.length E (some ⟨W,ro,none⟩) F b x d4 (by omega) f9 b4 d5 O.o.env O.o.asc g7.o g8.o (hN.kept (I.o.trans (C.trans (q.trans KD)))) (hS.kept (I.o.trans (C.trans (q.trans KD))))).mono ?_;rintro e w4 ⟨⟨qa,qc,rfl,e6⟩,k4⟩;have S:=KD.trans k4;have g9:=Kz e6;clear e6;dsimp only;refine Z.out _ _ (fun _=>b8.o _ S) ?_;clear Z K;try simp only[Act.put,upA,upB,upC]
   refine af 9 (fun K Z=>?_);go_simp
   refine Z.out _ _ (fun h=>Ki rfl h) ?_;clear Z K;try simp only[Act.put,upA,upB,upC]
   refine ay ?_;have e7:Hid (oq (gF (Kk f) (Qq b)) (b.map (·.name)) m r ((b.take i).map (·.name)) x asks 0 out c):=HI.o.enter x asks;have i1:=g5.o;have e8:=Kz (n.o.kept S);clear b9 n HI;go_wp2
   go_loopw [7,8,11] (fun T U c3 wr=>∃(c:Bool) (k l o j:Nat) (out:List KC),k<=asks.length/\c3= .int .i64 (k:Int)/\U= .bool c/\T= .slice (some ⟨l,o,none⟩) out.length j/\out.length<=j/\Hid (Strs wr (some ⟨l,o,none⟩) out)/\Hid (oq (gF (Kk f) (Qq b)) (b.map (·.name)) m r ((b.take i).map (·.name)) x asks k out c)/\K_ w4 wr) (fun _ _ c3 _=>asks.length-(intOf c3).toNat)
   case atStart=>exact⟨c,0,l,o,j,out,Ja _,rfl,rfl,rfl,t,e8,e7,K_.refl _⟩
   case round=>
    clear e8 e7;obtain⟨c,k,l,o,j,out,hk,rfl,rfl,rfl,t,n,v,D⟩:=hrel;have a8:out.length<=60:=by have h:=v.o.i.len;rw[J_] at h;omega
    by_cases L:k<asks.length;rotate_left
    ·have i2:¬((k:Int)<(asks.length:Int)):=by omega
     have h0:Hid (ow (gF (Kk f) (Qq b)) (b.map (·.name)) m r ((b.take (i+1)).map (·.name)) out c):=by
      rw[g3.o];exact v.o.leave (by omega) (fun y hy=>(HE.o y).2 hy)
     clear L;go_wp2
     go_roundw
     case rel=>exact⟨c,i+1,l,o,j,out,by omega,by go_num,rfl,rfl,t,n,h0,q.trans (S.trans D)⟩
     case measure=>simp[intOf];omega
    obtain⟨qb,qo,e1,i3,h1⟩:=(g9.o.kept D) k L;subst e1;obtain⟨y,hy⟩:=ah (asks.getD k ByteArray.empty);rw[<-hy] at h1;have e9:asks[k]=y:=by rw[hy];simp[List.getD,L]
    have c4:=Kz e9;have i4:(k:Int)<(asks.length:Int):=by omega
    obtain⟨c0,c1,c2,f0⟩:=b8.o _ (S.trans D);obtain⟨_,_,_,y0,y1⟩:=P.o _ (C.trans (q.trans (S.trans D)));have i5:W<wr.heap.size:=I_ e0 (S.trans D).size;clear hy e9;cases c5:(y.toList == m.toList)
    ·have f1:Hid (y≠m):=fun e=>by rw[e] at c5;simp at c5
     go_wp2_with fail
     refine (jA wr (some ⟨l,o,none⟩) j out y (by omega) n.o).mono ?_;rintro e w5 ⟨⟨b1,rfl,f2⟩,f3⟩;rw[f3];have c6:=Kz f2;clear f3 f2;cases b1
     ·have a0:Hid (oq (gF (Kk f) (Qq b)) (b.map (·.name)) m r ((b.take i).map (·.name)) x asks (k+1) out c):=v.o.skip L (by
       rw[c4.o];rintro⟨h|h,_⟩
       ·exact f1.o h
       ·have J:=c6.o.2 h;cases J)
      go_wp2
      go_roundw
      case rel=>exact⟨c,k+1,l,o,j,out,by omega,by go_num,rfl,rfl,t,n,a0,D⟩
      case measure=>simp[intOf];omega
     ·have c7:Hid (asks[k]=m\/asks[k]∈out):=by rw[c4.o];exact .inr (c6.o.1 rfl)
      clear c6 f1;go_wp2_with fail
      refine (jA wr (some ⟨l,o,none⟩) j out x (by omega) n.o).mono ?_;rintro e w6 ⟨⟨b2,rfl,a1⟩,a2⟩;rw[a2];have H:=Kz a1;clear a2 a1;cases b2
      ·have c8:Hid (x∉out):=fun h=>by have J:=H.o.2 h;cases J
       clear H;go_wp2_with fail
       refine (wD wr l o j out x (by omega) t v.o.i.asc n.o).mono ?_;rintro e w7 ⟨c9,o5,d0,r5,rfl,d1,a3,a4,k5⟩;obtain⟨a5,a6⟩:=a3.asc v.o.i.asc;have d2:=Kz a4;have d3:Hid (oq (gF (Kk f) (Qq b)) (b.map (·.name)) m r ((b.take i).map (·.name)) x asks (k+1) r5 true):=v.o.put L e4.o (fun z hz=>(HE.o z).1 hz) c7.o c8.o a5 a6;clear a4 a5 a6 a3 c0 c1 c2 f0;go_wp2
       go_roundw
       case rel=>exact⟨true,k+1,c9,o5,d0,r5,by omega,by go_num,rfl,rfl,d1,d2,d3,D.trans k5⟩
       case measure=>simp[intOf];omega
      ·have a0:Hid (oq (gF (Kk f) (Qq b)) (b.map (·.name)) m r ((b.take i).map (·.name)) x asks (k+1) out c):=v.o.skip L (fun h=>h.2 (H.o.1 rfl));clear H;go_wp2
       go_roundw
       case rel=>exact⟨c,k+1,l,o,j,out,by omega,by go_num,rfl,rfl,t,n,a0,D⟩
       case measure=>simp[intOf];omega
    ·have c7:Hid (asks[k]=m\/asks[k]∈out):=by rw[c4.o];exact .inl (fu c5)
     go_wp2_with fail
     refine (jA wr (some ⟨l,o,none⟩) j out x (by omega) n.o).mono ?_;rintro e w6 ⟨⟨b2,rfl,a1⟩,a2⟩;rw[a2];have H:=Kz a1;clear a2 a1;cases b2
     ·have c8:Hid (x∉out):=fun h=>by have J:=H.o.2 h;cases J
      clear H;go_wp2_with fail
      refine (wD wr l o j out x (by omega) t v.o.i.asc n.o).mono ?_;rintro e w7 ⟨c9,o5,d0,r5,rfl,d1,a3,a4,k5⟩;obtain⟨a5,a6⟩:=a3.asc v.o.i.asc;have d2:=Kz a4;have d3:Hid (oq (gF (Kk f) (Qq b)) (b.map (·.name)) m r ((b.take i).map (·.name)) x asks (k+1) r5 true):=v.o.put L e4.o (fun z hz=>(HE.o z).1 hz) c7.o c8.o a5 a6;clear a4 a5 a6 a3 c0 c1 c2 f0;go_wp2
      go_roundw
      case rel=>exact⟨true,k+1,c9,o5,d0,r5,by omega,by go_num,rfl,rfl,d1,d2,d3,D.trans k5⟩
      case measure=>simp[intOf];omega
     ·have a0:Hid (oq (gF (Kk f) (Qq b)) (b.map (·.name)) m r ((b.take i).map (·.name)) x asks (k+1) out c):=v.o.skip L (fun h=>h.2 (H.o.1 rfl));clear H;go_wp2
      go_roundw
      case rel=>exact⟨c,k+1,l,o,j,out,by omega,by go_num,rfl,rfl,t,n,a0,D⟩
      case measure=>simp[intOf];omega
