import Derived.Deep.RegionHeld
import Derived.Lib.Join
import Derived.Lib.Repeat
import Derived.Test.YtppbfddlkfglgaaGreatDoorKOPutB
import Derived.Deep.CutRange
set_option maxRecDepth 100000
set_option maxHeartbeats 25600000
namespace Go.Proofs.YtppbfddlkfglgaaGreatDoor
open Go.Proofs.Tryz
variable {a:Act}{up:Array Bool}{id n:Nat}{oi:Oper}{w:QX}
section
variable {P:Program}{ops:Array Oper}{Q:Exit -> Act -> QX -> Prop}{md:Region.Mode}{S:QX -> Prop}{z:Nat}
def Qk(P:Program)(md:Region.Mode)(ops:Array Oper)(Q:Exit->Act->QX->Prop)(S:QX->Prop)(z:Nat):Nat->Array Bool->Act->QX->Prop
 |0,up,a,w=>Region.ready md ops up=[]/\Q .normal a w
 |n+1,up,a,w=>(Region.ready md ops up=[]->Q .normal a w)/\∀k∈Region.ready md ops up,wpOp P ops Q k (λb u=>(k≠z->S u)/\Qk P md ops Q S z n (up.setIfInBounds k true) b u) a w
theorem Qk.any :∀(n:Nat)(up:Array Bool)(a:Act)(w:QX),Qk P md ops Q S z n up a w->wpAny P md ops Q n up a w
 |0,_,_,_,h=>h
 |n+1,_,_,_,h=>⟨h.1,λk c=>wpOp_mono (λb u g=>Qk.any n _ b u g.2) (h.2 k c)⟩
theorem Qk.region(b:P.follows .mixedOrders=true)(S:QX->Prop)(z:Nat)(c:S w.drew)(h:S w.drew->Qk P .any ops Q S z ops.size (Array.replicate ops.size false) a w.drew):(Code.region id ops true).wp P Q a w:=
 wp_region_any b (Qk.any _ _ _ _ (h c))
def nS(md:Region.Mode)(ops:Array Oper)(i:Nat)(D:List Nat):Bool:=
 D.all λd=>match ops[d]? with
  |some o=>o.after.toList.any λe=>Region.binds md e && (e.on == i || D.contains e.on)
  |none=>false
theorem EP{i:Nat}{D:List Nat}(j:nS md ops i D=true)(l:up.getD i true=false)(m:∀d∈D,up.getD d true=false){k:Nat}(n:k∈Region.ready md ops up):k∉D:=by
 intro p;obtain⟨_,o,q,r⟩:=mem_ready.1 n;have c:=List.all_eq_true.1 j k p;simp only[q,List.any_eq_true,Array.mem_toList_iff,Bool.and_eq_true,Bool.or_eq_true,beq_iff_eq,List.contains_iff_mem] at c;obtain⟨e,s,t,v⟩:=c;have a:=r e s t;have f:up.getD e.on true=false:=by
  rcases v with h|h
  .rw[h];exact l
  .exact m _ h
 rcases Nat.lt_or_ge e.on up.size with b|b
 .simp[b] at a f;rw[f] at a;cases a
 .simp[Array.getElem?_eq_none b] at a
theorem Qk.take'{i:Nat}{v:QY}(r:ops[i]? =some oi)(A:Region.noSelect ops=true)(L:∀c a w,Q (.panic c) (a.put oi.dst v) w->Q (.panic c) a w){D:List Nat}(M:z∈D)(N:nS md ops i D=true):
  ∀(n:Nat)(up:Array Bool)(a:Act)(w:QX),(∀j b,ops[j]? =some b->j≠i->up.getD j true=false->(∀e∈b.after,Region.binds md e=true->e.on≠i)->oi.apart ops b=true)->
   (∀d∈D,up.getD d true=false)->i∈Region.ready md ops up->YieldsIf P ops S oi v a->S w->
   Qk P md ops Q S z n (up.setIfInBounds i true) (a.put oi.dst v) w->Qk P md ops Q S z (n+1) up a w:=by
 intro n
 induction n with
 |zero=>
  intro up a w _ _ f q k H;refine⟨λh=>(by rw[h] at f;cases f),λj l=>?_⟩;by_cases e:j=i
  .exact e ▸ q.wpOp r k ⟨λ_=>k,H⟩
  .have:=ready_mono l e;rw[H.1] at this;cases this
 |succ n ih=>
  intro up a w B C f q k H;refine⟨λh=>(by rw[h] at f;cases f),λj l=>?_⟩;by_cases e:j=i
  .exact e ▸ q.wpOp r k ⟨λ_=>k,H⟩
  .have s:=(mem_ready.1 f).1;have E:=EP N s C l;have O:j≠z:=λh=>E (h ▸ M)
   obtain⟨F,b,t,R⟩:=mem_ready.1 l;have T:∀e∈b.after,Region.binds md e=true->e.on≠i:=λe U V W=>by
    have m:=R e U V;rw[W] at m;rcases Nat.lt_or_ge i up.size with x|x
    .simp[x] at s m;rw[s] at m;cases m
    .simp[Array.getElem?_eq_none x] at m
   have X:=wpOp_putIf t (B j b t e F T) (λy p=>Region.noSelect_spec A i oi y p r) (λy p=>Region.noSelect_spec A j b y p t) L q (H.2 j (ready_mono l e));refine wpOp_mono (λp u g=>⟨g.2.1,ih (up.setIfInBounds j true) p u (λG ok Y Z I a0=>B G ok Y Z ?_ a0) (λd J=>?_) (ready_mono f (Ne.symm e)) g.1 (g.2.1 O) ?_⟩) X
   .by_cases K:j=G
    .exact K ▸ F
    .rw[getD_set_ne true K] at I;exact I
   .rw[getD_set_ne true λh:j=d=>E (h ▸ J)];exact C d J
   .rw[Array.setIfInBounds_comm _ _ e];exact g.2.2
theorem Qk.take(i:Nat)(D:List Nat){v:QY}(f:ops[i]? =some oi)(h:Region.noSelect ops=true)(j:Region.free md ops up i=true)(k:(Region.ready md ops up).contains i=true)(b:(D.contains z && nS md ops i D && D.all λd=>!up.getD d true)=true)(l:∀c a w,Q (.panic c) (a.put oi.dst v) w->Q (.panic c) a w)(hy:YieldsIf P ops S oi v a)(m:S w)(p:Qk P md ops Q S z n (up.setIfInBounds i true) (a.put oi.dst v) w):Qk P md ops Q S z (n+1) up a w:=by
 simp only[Bool.and_eq_true,List.contains_iff_mem,List.all_eq_true,Bool.not_eq_true'] at b;exact Qk.take' f h l b.1.1 b.1.2 n up a w (Region.free_spec f j) b.2 (by simpa using k) hy m p
theorem Qk.next(i:Nat){o:Oper}(d:Region.ready md ops up=[i])(h:ops[i]? =some o)(j:∀K:Act->QX->Prop,Shut (∀b u,(i≠z->S u)->Qk P md ops Q S z n (up.setIfInBounds i true) b u->K b u)->if Region.wanted o (yielded ops a.tmps)=true then Oper.wp P o a w K Q else K (a.put o.dst undef) w):
  Qk P md ops Q S z (n+1) up a w:=by
 refine⟨λe=>(by rw[d] at e;cases e),λk f=>?_⟩;rw[d] at f;obtain rfl:k=i:=by simpa using f
 exact wpOp_step h λK l=>j K λb u m p=>l b u ⟨m,p⟩
theorem Qk.two(i j:Nat){e:Oper}(k:Region.ready md ops up=[i,j])(m:ops[i]? =some oi)(p:ops[j]? =some e)(d:∀K:Act->QX->Prop,Shut (∀b u,(i≠z->S u)->Qk P md ops Q S z n (up.setIfInBounds i true) b u->K b u)->if Region.wanted oi (yielded ops a.tmps)=true then Oper.wp P oi a w K Q else K (a.put oi.dst undef) w)(h2:∀K:Act->QX->Prop,Shut (∀b u,(j≠z->S u)->Qk P md ops Q S z n (up.setIfInBounds j true) b u->K b u)->if Region.wanted e (yielded ops a.tmps)=true then Oper.wp P e a w K Q else K (a.put e.dst undef) w):
  Qk P md ops Q S z (n+1) up a w:=by
 refine⟨λl=>(by rw[k] at l;cases l),λq f=>?_⟩;rw[k] at f;simp only[Qr,Qs,or_false] at f;rcases f with rfl|rfl
 .exact wpOp_step m λK h=>d K λb u d h2=>h b u ⟨d,h2⟩
 .exact wpOp_step p λK h=>h2 K λb u d h2=>h b u ⟨d,h2⟩
theorem Qk.done(b:Region.ready md ops up=[])(h:Q .normal a w):Qk P md ops Q S z n up a w:=by
 cases n with
 |zero=>exact⟨b,h⟩
 |succ n=>exact⟨λ_=>h,by rw[b];simp⟩
theorem upP :(∀(a:Act)(v:QY),a.put none v=a)/\(∀(a:Act)(d:Tmp)(v:QY),a.put (some d) v= {a with tmps:=a.tmps.setIfInBounds d v})/\(∀(l:List QY)(i:Nat)(a:QY),l.toArray.setIfInBounds i a= (l.set i a).toArray)/\(∀(x:QY)(l:List QY)(a:QY),(x :: l).set 0 a=a :: l)/\∀(x:QY)(l:List QY)(i:Nat)(a:QY),(x :: l).set (i+1) a=x :: l.set i a:=⟨λ_ _=>rfl,λ_ _ _=>rfl,λ_ _ _=>List.setIfInBounds_toArray ..,λ_ _ _=>rfl,λ_ _ _ _=>rfl⟩
def Zz(md:Region.Mode)(ops:Array Oper)(i:Nat):List Nat:=
 (List.range ops.size).foldl (λD d=>match ops[d]? with
  |some o=>if (o.after.toList.any λe=>Region.binds md e && (e.on == i || D.contains e.on))=true then D++[d] else D
  |none=>D) []
theorem ae(i:Nat){v:QY}{b:Act}(e:S w)(h:Qk P md ops Q S z n (up.setIfInBounds i true) b w)(f:ops[i]? =some oi:=by (simp only[List.getElem?_toArray];rfl))(hy:∀u,S u->(execOp a.eval oi).run P u=.ok (.value v) u:=by (intro u hu;(try dsimp only at hu);go_simp;(try with_reducible rfl)))(j:a.put oi.dst v=b:=by (first|(simp only[upP];exact rfl)|simp only[upP]|exact rfl))(k:Region.noSelect ops=true:=by kernel_rfl)(l:Region.free md ops up i=true:=by kernel_rfl)(m:(Region.ready md ops up).contains i=true:=by kernel_rfl)(p:((Zz md ops i).contains z && nS md ops i (Zz md ops i) && (Zz md ops i).all λd=>!up.getD d true)=true:=by kernel_rfl)(q:∀c a w,Q (.panic c) (a.put oi.dst v) w->Q (.panic c) a w:=by (first|exact λ_ _ _ h=>h|exact λ_ _ _ h=>nomatch h.1))(r:Region.wanted oi (yielded ops a.tmps)=true:=by rfl):Qk P md ops Q S z (n+1) up a w:=
 Qk.take i _ f k l m p q (Or.inl ⟨r,hy⟩) e (by rw[j];exact h)
theorem aC(i:Nat){b:Act}(e:S w)(h:Qk P md ops Q S z n (up.setIfInBounds i true) b w)(f:ops[i]? =some oi:=by (simp only[QT];rfl))(j:a.put oi.dst undef=b:=by (first|(simp only[upP];exact rfl)|simp only[upP]|exact rfl))(k:Region.noSelect ops=true:=by kernel_rfl)(l:Region.free md ops up i=true:=by kernel_rfl)(m:(Region.ready md ops up).contains i=true:=by kernel_rfl)(p:((Zz md ops i).contains z && nS md ops i (Zz md ops i) && (Zz md ops i).all λd=>!up.getD d true)=true:=by kernel_rfl)(q:∀c a w,Q (.panic c) (a.put oi.dst undef) w->Q (.panic c) a w:=by (first|exact λ_ _ _ h=>h|exact λ_ _ _ h=>nomatch h.1))(r:Region.wanted oi (yielded ops a.tmps)=false:=by rfl):Qk P md ops Q S z (n+1) up a w:=
 Qk.take i _ f k l m p q (Or.inr ⟨r,rfl⟩) e (by rw[j];exact h)
theorem au(i:Nat){o:Oper}(h:∀K:Act->QX->Prop,Shut (∀b u,(i≠z->S u)->Qk P md ops Q S z n (up.setIfInBounds i true) b u->K b u)->if Region.wanted o (yielded ops a.tmps)=true then Oper.wp P o a w K Q else K (a.put o.dst undef) w)(d:Region.ready md ops up=[i]:=by kernel_rfl)(e:ops[i]? =some o:=by (simp only[QT];rfl)):Qk P md ops Q S z (n+1) up a w:=Qk.next i d e h
theorem aD(i:Nat){o:Oper}(h:∀K:Act->QX->Prop,Shut (∀b u,(i≠z->S u)->Qk P md ops Q S z n (up.setIfInBounds i true) b u->K b u)->Oper.wp P o a w K Q)(c:Region.ready md ops up=[i]:=by kernel_rfl)(d:ops[i]? =some o:=by (simp only[QT];rfl))(e:Region.wanted o (yielded ops a.tmps)=true:=by rfl):Qk P md ops Q S z (n+1) up a w:=Qk.next i c d λK f=>by rw[QI e];exact h K f
theorem iX(i j:Nat){c:Oper}(d:∀K:Act->QX->Prop,Shut (∀b u,(i≠z->S u)->Qk P md ops Q S z n (up.setIfInBounds i true) b u->K b u)->if Region.wanted oi (yielded ops a.tmps)=true then Oper.wp P oi a w K Q else K (a.put oi.dst undef) w)(h2:∀K:Act->QX->Prop,Shut (∀b u,(j≠z->S u)->Qk P md ops Q S z n (up.setIfInBounds j true) b u->K b u)->if Region.wanted c (yielded ops a.tmps)=true then Oper.wp P c a w K Q else K (a.put c.dst undef) w)(e:Region.ready md ops up=[i,j]:=by kernel_rfl)(f:ops[i]? =some oi:=by (simp only[QT];rfl))(h:ops[j]? =some c:=by (simp only[QT];rfl)):Qk P md ops Q S z (n+1) up a w:=Qk.two i j e f h d h2
theorem bG(z:Nat)(b:∀u,K_ w u->S u)(h:∀wd,K_ w wd->S wd->Qk P .any ops Q S z ops.size (Array.replicate ops.size false) a wd)(d:P.follows .mixedOrders=true:=by kernel_rfl):(Code.region id ops true).wp P Q a w:=
 Qk.region d S z (b _ (a_ w)) λe=>h _ (a_ w) e
theorem tN(z:Nat){R:QX->Prop}(b:∀u,R u->S u)(c:R w.drew)(h:∀wd,K_ w wd->S wd->Qk P .any ops Q S z ops.size (Array.replicate ops.size false) a wd)(e:P.follows .mixedOrders=true:=by kernel_rfl):(Code.region id ops true).wp P Q a w:=
 Qk.region e S z (b _ c) λf=>h _ (a_ w) f
theorem tu(z:Nat){R:QX->Prop}(b:∀u,R u->S u)(c:R w.drew)(h:S w.drew->Qk P .any ops Q S z ops.size (Array.replicate ops.size false) a w.drew)(e:P.follows .mixedOrders=true:=by kernel_rfl):(Code.region id ops true).wp P Q a w:=
 Qk.region e S z (b _ c) h
theorem af{i:Nat}{K:Act->QX->Prop}(a:Shut (∀b u,(i≠z->S u)->Qk P md ops Q S z n up b u->K b u)){b c:Act}{u:QX}(d:i≠z->S u)(h:Qk P md ops Q S z n up c u)(e:b=c:=by (first|(simp only[upP];exact rfl)|simp only[upP]|exact rfl)):K b u:=by rw[e];exact a.out _ _ d h
theorem bZ(i:Nat)(v:QY){b:Act}(e:S w)(hy:∀u,S u->(execOp a.eval oi).run P u=.ok (.value v) u)(h:Qk P md ops Q S z n (up.setIfInBounds i true) b w)(f:ops[i]? =some oi:=by (simp only[QT];rfl))(j:a.put oi.dst v=b:=by (first|(simp only[upP];exact rfl)|simp only[upP]|exact rfl))(k:Region.noSelect ops=true:=by kernel_rfl)(l:Region.free md ops up i=true:=by kernel_rfl)(m:(Region.ready md ops up).contains i=true:=by kernel_rfl)(p:((Zz md ops i).contains z && nS md ops i (Zz md ops i) && (Zz md ops i).all λd=>!up.getD d true)=true:=by kernel_rfl)(q:∀c a w,Q (.panic c) (a.put oi.dst v) w->Q (.panic c) a w:=by (first|exact λ_ _ _ h=>h|exact λ_ _ _ h=>nomatch h.1))(r:Region.wanted oi (yielded ops a.tmps)=true:=by rfl):Qk P md ops Q S z (n+1) up a w:=
 Qk.take i _ f k l m p q (Or.inl ⟨r,hy⟩) e (by rw[j];exact h)
theorem aF(h:Q .normal a w)(c:Region.ready md ops up=[]:=by kernel_rfl):Qk P md ops Q S z n up a w:=Qk.done c h
theorem ax(i:Nat){v0 v1 v2 v3:QY}{b e f j:Oper}{k l m r:Act}(p:S w)(h:Qk P md ops Q S z n ((((up.setIfInBounds i true).setIfInBounds (i+1) true).setIfInBounds (i+2) true).setIfInBounds (i+3) true) r w)(s:ops[i]? =some b:=by (simp only[List.getElem?_toArray];rfl))(t:Region.wanted b (yielded ops a.tmps)=true:=by rfl)(v:∀u,S u->(execOp a.eval b).run P u=.ok (.value v0) u:=by (intro u hu;(try dsimp only at hu);go_simp;(try with_reducible rfl)))(x:a.put b.dst v0=k:=by (first|(simp only[upP];exact rfl)|simp only[upP]|exact rfl))(y:Region.free md ops up i=true:=by kernel_rfl)(A:(Region.ready md ops up).contains i=true:=by kernel_rfl)(B:((Zz md ops i).contains z && nS md ops i (Zz md ops i) && (Zz md ops i).all λd=>!up.getD d true)=true:=by kernel_rfl)(C:∀c a w,Q (.panic c) (a.put b.dst v0) w->Q (.panic c) a w:=by (first|exact λ_ _ _ h=>h|exact λ_ _ _ h=>nomatch h.1))(D:ops[i+1]? =some e:=by (simp only[List.getElem?_toArray];rfl))(E:Region.wanted e (yielded ops k.tmps)=true:=by rfl)(F:∀u,S u->(execOp k.eval e).run P u=.ok (.value v1) u:=by (intro u hu;(try dsimp only at hu);go_simp;(try with_reducible rfl)))(G:k.put e.dst v1=l:=by (first|(simp only[upP];exact rfl)|simp only[upP]|exact rfl))(H:Region.free md ops (up.setIfInBounds i true) (i+1)=true:=by kernel_rfl)(I:(Region.ready md ops (up.setIfInBounds i true)).contains (i+1)=true:=by kernel_rfl)(J:((Zz md ops (i+1)).contains z && nS md ops (i+1) (Zz md ops (i+1)) && (Zz md ops (i+1)).all λd=>!(up.setIfInBounds i true).getD d true)=true:=by kernel_rfl)(K:∀c a w,Q (.panic c) (a.put e.dst v1) w->Q (.panic c) a w:=by (first|exact λ_ _ _ h=>h|exact λ_ _ _ h=>nomatch h.1))(L:ops[i+2]? =some f:=by (simp only[List.getElem?_toArray];rfl))(M:Region.wanted f (yielded ops l.tmps)=true:=by rfl)(N:∀u,S u->(execOp l.eval f).run P u=.ok (.value v2) u:=by (intro u hu;(try dsimp only at hu);go_simp;(try with_reducible rfl)))(O:l.put f.dst v2=m:=by (first|(simp only[upP];exact rfl)|simp only[upP]|exact rfl))(R:Region.free md ops ((up.setIfInBounds i true).setIfInBounds (i+1) true) (i+2)=true:=by kernel_rfl)(T:(Region.ready md ops ((up.setIfInBounds i true).setIfInBounds (i+1) true)).contains (i+2)=true:=by kernel_rfl)(U:((Zz md ops (i+2)).contains z && nS md ops (i+2) (Zz md ops (i+2)) && (Zz md ops (i+2)).all λd=>!((up.setIfInBounds i true).setIfInBounds (i+1) true).getD d true)=true:=by kernel_rfl)(V:∀c a w,Q (.panic c) (a.put f.dst v2) w->Q (.panic c) a w:=by (first|exact λ_ _ _ h=>h|exact λ_ _ _ h=>nomatch h.1))(W:ops[i+3]? =some j:=by (simp only[List.getElem?_toArray];rfl))(X:Region.wanted j (yielded ops m.tmps)=true:=by rfl)(Y:∀u,S u->(execOp m.eval j).run P u=.ok (.value v3) u:=by (intro u hu;(try dsimp only at hu);go_simp;(try with_reducible rfl)))(Z:m.put j.dst v3=r:=by (first|(simp only[upP];exact rfl)|simp only[upP]|exact rfl))(a0:Region.free md ops (((up.setIfInBounds i true).setIfInBounds (i+1) true).setIfInBounds (i+2) true) (i+3)=true:=by kernel_rfl)(a1:(Region.ready md ops (((up.setIfInBounds i true).setIfInBounds (i+1) true).setIfInBounds (i+2) true)).contains (i+3)=true:=by kernel_rfl)(a2:((Zz md ops (i+3)).contains z && nS md ops (i+3) (Zz md ops (i+3)) && (Zz md ops (i+3)).all λd=>!(((up.setIfInBounds i true).setIfInBounds (i+1) true).setIfInBounds (i+2) true).getD d true)=true:=by kernel_rfl)(a3:∀c a w,Q (.panic c) (a.put j.dst v3) w->Q (.panic c) a w:=by (first|exact λ_ _ _ h=>h|exact λ_ _ _ h=>nomatch h.1))(q:Region.noSelect ops=true:=by kernel_rfl):Qk P md ops Q S z (n+4) up a w:=
 Qk.take i _ s q y A B C (Or.inl ⟨t,v⟩) p (by rw[x];exact (Qk.take (i+1) _ D q H I J K (Or.inl ⟨E,F⟩) p (by rw[G];exact (Qk.take (i+2) _ L q R T U V (Or.inl ⟨M,N⟩) p (by rw[O];exact (Qk.take (i+3) _ W q a0 a1 a2 a3 (Or.inl ⟨X,Y⟩) p (by rw[Z];exact h)))))))
end
open Go.RowKit
structure cO where
 code:Int
 over:Bool
 at':Int
 text:QV
def cO.cells(g:cO):List QY:=[.b g.code,.bool g.over,.b g.at',.string g.text]
theorem xX(w:QX)(c:Xz)(a:c.text.size<=maxLen):
  Calls prog 192 #[.agg #[.bool c.fail,.string c.text]] w λe w'=>Says e (200<c.text.size)/\K_ w w':=by
 unfold maxLen at a;go_enter func192,ntmps192
 go_wp2
 go_ret
 exact⟨(Says.dec _).congr ⟨λh=>A7,λh=>A7⟩,ai _ _⟩
theorem Fu(w:QX)(c:Xz):
  Calls prog 162 #[.agg #[.bool c.fail,.string c.text]] w λe w'=>Says e (c.fail=true)/\K_ w w':=by
 go_enter func162,ntmps162
 go_wp2
 go_ret
 exact⟨⟨c.fail,rfl,Iff.rfl⟩,ai _ _⟩
def CB(l:List Xz)(p:Xz->Prop)(r:Int):Prop:=
 (∃i,i<l.length/\r= (i:Int)/\p (l.getD i Xz.zero)/\∀j,j<i->¬p (l.getD j Xz.zero))\/(r= -1/\∀j,j<l.length->¬p (l.getD j Xz.zero))
def nC(l:List Xz)(p:Xz->Prop)(k:Nat):Prop:=∀j,j<k->¬p (l.getD j Xz.zero)
def qw(c:Xz):Prop:=200<c.text.size
def ja(c:Xz):Prop:=c.fail=true
theorem JS(w:QX)(a:QW)(cap:Nat)(l:List Xz)(C:l.length<=maxLen)(D:∀c∈l,c.text.size<=maxLen)(E:fI w a l):
  Calls prog 161 #[.slice a l.length cap,.func (.func 192) #[] #[]] w λe w'=>(∃r,e=.returned (.b r)/\CB l qw r)/\K_ w w':=by
 unfold maxLen at C;go_enter func161,ntmps161
 go_wp2
 go_loopw [8] (λi wr=>∃k:Nat,k<=l.length/\i=.b k/\K_ w wr/\nC l qw k) λi _=>l.length-(intOf i).toNat
 case atStart=>exact⟨0,Py _,rfl,K_.refl _,λj h=>aS h⟩
 case round=>
  obtain⟨k,I,rfl,d,s⟩:=hrel;have m:=Kz s;clear s;by_cases n:k<l.length
  .obtain⟨b,o,rfl,J,f⟩:=E.kept d k n;have t:(l.getD k Xz.zero).text.size<=maxLen:=D _ (by simp[List.getD,n]);obtain⟨c,p⟩:=aj (l.getD k Xz.zero);rw[<-p] at f t;have v:=Kz p;clear p;have x:=f 0 _ rfl;have F:=f 1 _ rfl;simp only[Qp] at x;clear f;go_wp2_with fail
   refine (xX _ c t).mono ?_;rintro e w1 ⟨q,y⟩;have z:=d.trans y;clear x F d y;rcases q.cases with⟨rfl,A⟩|⟨rfl,B⟩
   .have G:=Kz A;clear A q;go_wp2
    go_ret
    exact⟨⟨k,rfl,Or.inl ⟨k,n,rfl,by rw[<-v.o];exact G.o,m.o⟩⟩,z⟩
   .have H:=Kz B;clear B q;go_wp2
    go_roundw
    case rel=>
     refine⟨k+1,A7,C8,z,λj h=>?_⟩;by_cases e:j=k
     .subst e;rw[<-v.o];exact H.o
     .exact m.o j A7
    case measure=>simp[intOf];omega
  .go_wp2
   go_ret
   exact⟨⟨-1,rfl,Or.inr ⟨rfl,λj h=>m.o j A7⟩⟩,d⟩
theorem Bi(w:QX)(a:QW)(cap:Nat)(l:List Xz)(B:l.length<=maxLen)(C:∀c∈l,c.text.size<=maxLen)(D:fI w a l):
  Calls prog 161 #[.slice a l.length cap,.func (.func 162) #[] #[]] w λe w'=>(∃r,e=.returned (.b r)/\CB l ja r)/\K_ w w':=by
 unfold maxLen at B;go_enter func161,ntmps161
 go_wp2
 go_loopw [8] (λi wr=>∃k:Nat,k<=l.length/\i=.b k/\K_ w wr/\nC l ja k) λi _=>l.length-(intOf i).toNat
 case atStart=>exact⟨0,Py _,rfl,K_.refl _,λj h=>aS h⟩
 case round=>
  obtain⟨k,I,rfl,d,s⟩:=hrel;have m:=Kz s;clear s;by_cases n:k<l.length
  .obtain⟨b,o,rfl,J,f⟩:=D.kept d k n;have E:(l.getD k Xz.zero).text.size<=maxLen:=C _ (by simp[List.getD,n]);obtain⟨c,p⟩:=aj (l.getD k Xz.zero);rw[<-p] at f E;have t:=Kz p;clear p;have v:=f 0 _ rfl;have F:=f 1 _ rfl;simp only[Qp] at v;clear f;go_wp2_with fail
   refine (Fu _ c).mono ?_;rintro e w1 ⟨q,x⟩;have y:=d.trans x;clear v F d x;rcases q.cases with⟨rfl,z⟩|⟨rfl,A⟩
   .have G:=Kz z;clear z q;go_wp2
    go_ret
    exact⟨⟨k,rfl,Or.inl ⟨k,n,rfl,by rw[<-t.o];exact G.o,m.o⟩⟩,y⟩
   .have H:=Kz A;clear A q;go_wp2
    go_roundw
    case rel=>
     refine⟨k+1,A7,C8,y,λj h=>?_⟩;by_cases e:j=k
     .subst e;rw[<-t.o];exact H.o
     .exact m.o j A7
    case measure=>simp[intOf];omega
  .go_wp2
   go_ret
   exact⟨⟨-1,rfl,Or.inr ⟨rfl,λj h=>m.o j A7⟩⟩,d⟩
theorem CJ(w:QX)(a:QW)(cap:Nat)(l:List Xz)(m:l.length<=maxLen)(n:∀c∈l,c.text.size<=maxLen)(p:fI w a l):
  Calls prog 191 #[.slice a l.length cap,.func (.func 192) #[] #[]] w λe w'=>Says e (∃i,i<l.length/\qw (l.getD i Xz.zero))/\K_ w w':=by
 go_enter func191,ntmps191
 go_wp2_with fail
 refine (JS _ a cap l m n p).mono ?_;rintro e w1 ⟨⟨r,rfl,f⟩,h⟩;have j:=Kz f;clear f;by_cases k:0<=r
 .have q:decide (0<=r)=true:=by simpa using k
  go_wp2
  go_ret
  exact⟨Says.yes (by rcases j.o with⟨i,b,_,d,_⟩|⟨rfl,_⟩;exact⟨i,b,d⟩;omega),h⟩
 .have q:decide (0<=r)=false:=by simpa using k
  go_wp2
  go_ret
  exact⟨Says.no (by rcases j.o with⟨i,b,rfl,d,_⟩|⟨rfl,s⟩;omega;exact λ⟨i,b,d⟩=>s i b d),h⟩
def uK(s:Xq)(t:QV)(i:Nat):Prop:=(s.cases.getD i bQ.zero).text=t
def CaseTo(s:Xq)(t:QV)(k:Nat):Prop:=∀j,j<k->¬uK s t j
def Gn(s:Xq)(i:Nat):Int:=(s.cases.getD i bQ.zero).goto
def ni(ans:List Xz)(i:Int):QV:=(ans.getD i.toNat Xz.zero).text
def xA(s:Xq)(ans:List Xz)(r:Int):Prop:=
 (ans.length=0/\r=s.els)\/
 (ans.length≠0/\((∃i,i<s.cases.length/\uK s (ni ans s.on) i/\CaseTo s (ni ans s.on) i/\r=Gn s i)\/(CaseTo s (ni ans s.on) s.cases.length/\r=s.els)))
theorem xA.unique{s:Xq}{ans:List Xz}{r c:Int}(h:xA s ans r)(f:xA s ans c):r=c:=by
 rcases h with⟨k,rfl⟩|⟨k,⟨i,l,d,a,rfl⟩|⟨a,rfl⟩⟩<;>rcases f with⟨m,rfl⟩|⟨m,⟨j,n,e,b,rfl⟩|⟨b,rfl⟩⟩
 all_goals first|rfl|(exfalso;omega)|skip
 .rcases QH i j with h|rfl|h
  .exact QK d (b i h)
  .rfl
  .exact QK e (a j h)
 .exact QK d (b i l)
 .exact QK e (a j n)
theorem Gu(w:QX)(s:Xq)(n d a:QW)(p q cap:Nat)(ans:List Xz)(O:s.cases.length<=maxLen)(P:lK w d s.cases)(_hl:ans.length<=maxLen)(Q:fI w a ans)(F:ans.length≠0->0<=s.on/\s.on<ans.length):
  Calls prog 193 #[.agg #[.slice n s.asks.length p,.b s.on,.slice d s.cases.length q,.b s.els,.b s.fall,.bool s.fin,.bool s.bad,.string s.give],.slice a ans.length cap] w λe w'=>(∃r,e=.returned (.b r)/\xA s ans r)/\K_ w w':=by
 unfold maxLen at _hl O;have R:K_ w (w.alloc (.cells #[.slice n s.asks.length p,.b s.on,.slice d s.cases.length q,.b s.els,.b s.fall,.bool s.fin,.bool s.bad,.string s.give] 229)):=ai _ _;cases f:((ans.length:Int) == 0)
 .have v:ans.length≠0:=by simp at f;simpa using f
  obtain⟨G,S⟩:=F v;clear F;have H:=Kz v;clear v;obtain⟨t,I⟩:=aj (ni ans s.on);have h:=Kz I;clear I;obtain⟨x,y⟩:=Int.eq_ofNat_of_zero_le G;have T:=Kz y;go_enter func193,ntmps193
  rw[y] at G S⊢;clear y;go_wp2
  go_loopw [17] (λz wr=>∃k:Nat,k<=s.cases.length/\z=.b k/\K_ (w.alloc (.cells #[.slice n s.asks.length p,.b x,.slice d s.cases.length q,.b s.els,.b s.fall,.bool s.fin,.bool s.bad,.string s.give] 229)) wr/\CaseTo s t k) λz _=>s.cases.length-(intOf z).toNat
  case atStart=>exact⟨0,Py _,rfl,K_.refl _,λj A=>aS A⟩
  case round=>
   obtain⟨k,Z,rfl,i,J⟩:=hrel;have B:=Kz J;clear J;have U:=i.size;simp only[Qh] at U;have l:K_ w wr:=K_.trans (ai _ _) i;obtain⟨a0,a1⟩:=i.rules;by_cases K:k<s.cases.length
   .obtain⟨b,o,rfl,hb,m⟩:=P.kept l k K;obtain⟨V,o',rfl,a2,L⟩:=Q.kept l x A7;obtain⟨c,C⟩:=aj (s.cases.getD k bQ.zero);rw[<-C] at m;have D:=Kz C;clear C;have W:=m 0 _ rfl;have c1:=m 1 _ rfl;have X:=L 1 _ rfl;simp only[Qp] at W;have M:(ans.getD x Xz.zero).text=t:=by have E:=h.o;have Y:=T.o;unfold ni at E;rw[Y] at E;exact E.symm
    rw[M] at X;clear m L M;have z0:w.heap.size<wr.heap.size:=A7;have z1:w.heap.size<wr.heap.size+1:=A7;have z2:V<wr.heap.size+1:=A7;cases N:(c.text.toList == t.toList)
    .go_wp2
     go_region
     all_goals
      go_wp2
      go_roundw
      case rel=>
       refine⟨k+1,A7,C8,by repeat (first|apply K_.drew|apply K_.alloc|exact i),λj A=>?_⟩;by_cases e:j=k
       .subst e;unfold uK;rw[<-D.o];exact tL N
       .exact B.o j A7
      case measure=>simp[intOf];omega
    .go_wp2
     go_region
     all_goals
      go_wp2
      go_ret
      exact⟨⟨c.goto,rfl,Or.inr ⟨H.o,Or.inl ⟨k,K,by unfold uK;rw[<-D.o,<-h.o];exact pX.1 N,by rw[<-h.o];exact B.o,by unfold Gn;rw[<-D.o]⟩⟩⟩,by repeat (first|apply K_.drew|apply K_.alloc|exact l)⟩
   .go_wp2
    go_ret
    exact⟨⟨s.els,rfl,Or.inr ⟨H.o,Or.inr ⟨by rw[<-h.o];exact λj A=>B.o j A7,rfl⟩⟩⟩,l⟩
 .go_enter func193,ntmps193
  go_wp2
  go_ret
  exact⟨⟨s.els,rfl,Or.inl ⟨by simp at f;simpa using f,rfl⟩⟩,R⟩
def cO.none :cO:=⟨1,false,0,⟨#[]⟩⟩
def kU(s:Xq)(i:Nat):QV:=(⟨#[98,101,108,111,119,32]⟩:QV)++s.asks.getD i ByteArray.empty
def yK(s:Xq)(ans:List Xz):Prop:=ans.length=s.asks.length/\¬∃i,i<ans.length/\qw (ans.getD i Xz.zero)
def Followed(s:Xq)(ans:List Xz)(g:cO):Prop:=
 (¬yK s ans/\g=cO.none)\/
 (yK s ans/\((∃i,i<ans.length/\ja (ans.getD i Xz.zero)/\nC ans ja i/\((s.fall= -1/\g= ⟨0,true,0,kU s i⟩)\/(s.fall≠ -1/\g= ⟨0,false,s.fall,⟨#[]⟩⟩)))\/
  (nC ans ja ans.length/\∃r,xA s ans r/\g= ⟨0,false,r,⟨#[]⟩⟩)))
theorem Followed.unique{s:Xq}{ans:List Xz}{g k:cO}(h:Followed s ans g)(n:Followed s ans k):g=k:=by
 rcases h with⟨a,rfl⟩|⟨a,⟨i,p,l,b,⟨c,rfl⟩|⟨c,rfl⟩⟩|⟨b,v,q,rfl⟩⟩<;>rcases n with⟨d,rfl⟩|⟨d,⟨j,r,m,e,⟨f,rfl⟩|⟨f,rfl⟩⟩|⟨e,w,t,rfl⟩⟩
 all_goals first|rfl|exact QK d a|exact QK a d|exact QK f c|exact QK c f|exact QK l (e i p)|exact QK m (b j r)|skip
 .rcases QH i j with h|rfl|h
  .exact QK l (e i h)
  .rfl
  .exact QK m (b j h)
 .rw[q.unique t]
theorem Tryz.ed :(prog.info? 151).map (·.size)=some 4:=C9
theorem EM(w:QX)(s:Xq)(f h a:QW)(k l cap:Nat)(ans:List Xz)(K:s.Fits)(X:Strs w f s.asks)(Y:lK w h s.cases)(t:ans.length<=maxLen)(L:∀c∈ans,c.text.size<=maxLen)(D:fI w a ans)(Z:s.asks.length≠0->0<=s.on/\s.on<s.asks.length)(a0:∀i,i<s.asks.length->(s.asks.getD i ByteArray.empty).size<=20):
  Calls prog 174 #[.agg #[.slice f s.asks.length k,.b s.on,.slice h s.cases.length l,.b s.els,.b s.fall,.bool s.fin,.bool s.bad,.string s.give],.slice a ans.length cap] w λe w'=>(∃g,e=.returned (.agg g.cells.toArray)/\Followed s ans g)/\K_ w w':=by
 have a1:=t;have a2:=K.asks;unfold maxLen at a1 a2;have v:K_ w ((w.alloc (.cells #[.slice f s.asks.length k,.b s.on,.slice h s.cases.length l,.b s.els,.b s.fall,.bool s.fin,.bool s.bad,.string s.give] 229)).alloc (.cells #[.b 0,.bool false,.b 0,.string ⟨#[]⟩] 151)):=(ai _ _).alloc _;cases E:((ans.length:Int) != (s.asks.length:Int))
 .have M:ans.length=s.asks.length:=by simp at E;omega
  have x:=Kz M;clear M;go_enter func174,ntmps174
  go_wp2_with fail
  refine (CJ _ a cap ans t L (D.kept v)).mono ?_;rintro e w1 ⟨F,j⟩;have y:=v.trans j;have N:Row w1 (w.heap.size+1) 4:=Row.kept (by have:=Row.made (w.alloc (.cells #[.slice f s.asks.length k,.b s.on,.slice h s.cases.length l,.b s.els,.b s.fall,.bool s.fin,.bool s.bad,.string s.give] 229)) #[.b 0,.bool false,.b 0,.string ⟨#[]⟩] 151;simpa using this) j;have G:=Kz N;clear N;obtain⟨b5,b6⟩:=j.rules;have a3:=j.size;simp only[Qh] at a3;rcases F.cases with⟨rfl,O⟩|⟨rfl,P⟩
  .have HY:=Kz O;clear O F v j;go_wp2
   have b:=PD w1 (w.heap.size+1) 0 cO.none.cells (G.o.there (o:=0) (m:=4) (Pw _));exact Zx cO.none.cells _ results174 rfl b underlying151 rfl Tryz.ed rfl ⟨⟨_,rfl,Or.inl ⟨λz=>z.2 HY.o,rfl⟩⟩,K_.setCells (g:=w.heap.size+1) A7 cO.none.cells 0 y⟩
  .have HN:=Kz P;clear P F v j;have z0:w.heap.size<w1.heap.size:=A7;have z1:w.heap.size+1<w1.heap.size:=A7;go_wp2_with fail
   refine (Bi _ a cap ans t L (D.kept y)).mono ?_;rintro e A ⟨⟨b9,rfl,hr⟩,n⟩;have d:=y.trans n;have Q:=G.o.kept n;have B:=Kz Q;obtain⟨c0,c1⟩:=n.rules;have c2:=n.size;have y0:w.heap.size<A.heap.size:=A7;have y1:w.heap.size+1<A.heap.size:=A7;clear Q G n y;have H:Hid (yK s ans):=⟨x.o,HN.o⟩;rcases hr with⟨i,R,rfl,S,p⟩|⟨rfl,p⟩
   .have T:=Kz S;have C:=Kz p;clear S p;cases U:(s.fall == -1)
    .go_wp2
     have b:=PD A (w.heap.size+1) 0 [.b 0,.bool false,.b s.fall,.string ⟨#[]⟩] (B.o.there (o:=0) (m:=4) (Pw _));exact Zx [.b 0,.bool false,.b s.fall,.string ⟨#[]⟩] _ results174 rfl b underlying151 rfl Tryz.ed rfl ⟨⟨⟨0,false,s.fall,⟨#[]⟩⟩,rfl,Or.inr ⟨H.o,Or.inl ⟨i,R,T.o,C.o,Or.inr ⟨by simpa using U,rfl⟩⟩⟩⟩,K_.setCells (g:=w.heap.size+1) A7 [.b 0,.bool false,.b s.fall,.string ⟨#[]⟩] 0 d⟩
    .obtain⟨ba,oa,rfl,c7,a7⟩:=X.kept d i (by have:=x.o;omega);have a8:i<s.asks.length:=by have:=x.o;omega
     obtain⟨I,J⟩:=aj (s.asks.getD i ByteArray.empty);have a9:=a0 i a8;rw[<-J] at a7 a9;have HV:=Kz J;clear J;go_wp2
     have b:=PD A (w.heap.size+1) 0 [.b 0,.bool true,.b 0,.string ((⟨#[98,101,108,111,119,32]⟩:QV)++I)] (B.o.there (o:=0) (m:=4) (Pw _));exact Zx [.b 0,.bool true,.b 0,.string ((⟨#[98,101,108,111,119,32]⟩:QV)++I)] _ results174 rfl b underlying151 rfl Tryz.ed rfl ⟨⟨⟨0,true,0,_⟩,rfl,Or.inr ⟨H.o,Or.inl ⟨i,R,T.o,C.o,Or.inl ⟨by simpa using U,by unfold kU;rw[<-HV.o]⟩⟩⟩⟩,K_.setCells (g:=w.heap.size+1) A7 [.b 0,.bool true,.b 0,.string ((⟨#[98,101,108,111,119,32]⟩:QV)++I)] 0 d⟩
   .have C:=Kz p;clear p;go_wp2_with fail
    refine (Gu _ s f h a k l cap ans K.cases (Y.kept d) t (D.kept d) λz=>by have h1:=x.o;have h2:=Z A7;omega).mono ?_;rintro e w3 ⟨⟨q,rfl,V⟩,r⟩;have K3:=d.trans r;have W:=B.o.kept r;have⟨b3,HQ⟩:=aJ W V;obtain⟨d0,d1⟩:=r.rules;have d2:=r.size;clear W B r d V;go_wp2
    have b:=PD w3 (w.heap.size+1) 0 [.b 0,.bool false,.b q,.string ⟨#[]⟩] (b3.o.there (o:=0) (m:=4) (Pw _));exact Zx [.b 0,.bool false,.b q,.string ⟨#[]⟩] _ results174 rfl b underlying151 rfl Tryz.ed rfl ⟨⟨⟨0,false,q,⟨#[]⟩⟩,rfl,Or.inr ⟨H.o,Or.inr ⟨C.o,q,HQ.o,rfl⟩⟩⟩,K_.setCells (g:=w.heap.size+1) A7 [.b 0,.bool false,.b q,.string ⟨#[]⟩] 0 K3⟩
 .go_enter func174,ntmps174
  go_wp2
  have b:=X_ (w.alloc (.cells #[.slice f s.asks.length k,.b s.on,.slice h s.cases.length l,.b s.els,.b s.fall,.bool s.fin,.bool s.bad,.string s.give] 229)) #[.b 1,.bool false,.b 0,.string ⟨#[]⟩] 151;rw[Qh] at b;exact Zx cO.none.cells _ results174 rfl b underlying151 rfl Tryz.ed rfl ⟨⟨_,rfl,Or.inl ⟨λz=>by simp at E;exact E (by have:=z.1;omega),rfl⟩⟩,(ai _ _).alloc _⟩
def Ob :List UInt8:=[48,49,50,51,52,53,54,55,56,57,97,98,99,100,101,102]
def pQ(n:Nat):UInt8:=Ob.getD n 0
def kJ :Nat->Nat->List UInt8
 |0,_=>[]
 |k+1,v=>pQ (v / 16 ^ k % 16) :: kJ k v
theorem jc :∀k v,(kJ k v).length=k
 |0,_=>rfl
 |k+1,v=>by simp[kJ,jc k v]
theorem EQ :∀(k v i:Nat)(h:i<(kJ k v).length),(kJ k v)[i]=pQ (v / 16 ^ (k-1-i) % 16)
 |0,_,_,h=>aS h
 |k+1,v,0,_=>by simp[kJ]
 |k+1,v,i+1,h=>by
  have a:i<(kJ k v).length:=by simpa[kJ] using h
  have e:k+1-1-(i+1)=k-1-i:=A7;rw[e,<-EQ k v i a];simp[kJ]
theorem DJ(j v:Nat)(h:v<16 ^ j):∀m,kJ (m+j) v=List.replicate m 48++kJ j v
 |0=>A9
 |m+1=>by
  have e:m+1+j= (m+j)+1:=A7;rw[e,kJ,DJ j v h m];have c:v / 16 ^ (m+j)=0:=by
   apply Nat.div_eq_of_lt;exact Px h (Nat.pow_le_pow_right A7 A7)
  rw[c]
  rfl
def eB(v:Int)(b:UInt8):Int:=IntKind.u64.wrap (bits BinOp.xor IntKind.u64 v (b.toNat:Int)*1099511628211)
def sumOf(l:List UInt8):Int:=l.foldl eB 14695981039346656037
theorem Bo(b:UInt8):IntKind.u64.wrap (b.toNat:Int)= (b.toNat:Int):=by
 have:=b.toNat_lt;rw[IntKind.wrap_u64];omega
theorem yV(v:Int)(b:UInt8):0<=eB v b/\eB v b<18446744073709551616:=by
 unfold eB;rw[IntKind.wrap_u64];omega
theorem qp :∀(l:List UInt8)(v:Int),0<=v/\v<18446744073709551616->0<=l.foldl eB v/\l.foldl eB v<18446744073709551616
 |[],_,h=>h
 |b :: r,v,_=>qp r _ (yV v b)
theorem sN(l:List UInt8):0<=sumOf l/\sumOf l<18446744073709551616:=qp l _ A7
theorem tO(l:List UInt8)(k:Nat)(h:k<l.length):(l.take (k+1)).foldl eB 14695981039346656037=eB ((l.take k).foldl eB 14695981039346656037) (l.getD k 0):=by
 rw[PH h,List.foldl_append];simp[List.getD,h]
def kV(give:List UInt8)(ts:List (List UInt8)):List UInt8:=give++40 :: (Lib.join ts [44]++[41])
def nM(give:List UInt8)(ts:List (List UInt8)):List UInt8:=
 if 30<give.length\/100<ts.length\/(∃t∈ts,200<t.length) then []
 else if (kV give ts).length<=200 then kV give ts
 else 35 :: kJ 16 (sumOf (kV give ts)).toNat
theorem Nu(ts:List (List UInt8))(n:Nat)(h:∀t∈ts,t.length<=n):(Lib.join ts [44]).length<=ts.length*(n+1):=by
 cases ts with
 |nil=>simp[Lib.join_nil]
 |cons x r=>
  rw[Lib.join_cons,Qi,Lib.joinTail_length];have d:=h x A9;have e:Lib.lens r<=r.length*n:=by
   have:∀(q:List (List UInt8)),(∀t∈q,t.length<=n)->Lib.lens q<=q.length*n:=by
    intro q
    induction q with
    |nil=>intro _;simp[Lib.lens]
    |cons y q ih=>
     intro b;have f:=b y A9;have c:=ih (λt a=>b t (by simp[a]));simp only[Lib.lens,List.map_cons,List.sum_cons,Qn,Nat.succ_mul] at c⊢;omega
   exact this r (λt a=>h t (by simp[a]))
  simp only[Qn,List.length_nil,Qb,Nat.one_mul];have:(r.length+1)*(n+1)=r.length*n+r.length+n+1:=by rw[Nat.add_mul,Nat.mul_add];omega
  omega
theorem qh(ts:List (List UInt8))(k:Nat)(h:k<ts.length):
  Lib.join (ts.take (k+1)) [44]=Lib.join (ts.take k) [44]++((if 0<k then [44] else [])++ts.getD k []):=by
 cases ts with
 |nil=>simp at h
 |cons x r=>
  cases k with
  |zero=>simp[Lib.join_one,Lib.join_nil]
  |succ k=>
   have b:k<r.length:=by simpa using h
   rw[List.take_succ_cons,List.take_succ_cons,Lib.join_cons,Lib.join_cons,Lib.joinTail_take_succ [44] r k (r.getD k []) (by simp[List.getD,b])];simp[List.append_assoc]
def texts(l:List QV):List (List UInt8):=l.map (·.data.toList)
def pJ(give:QV)(l:List QV):QV:=⟨(nM give.data.toList (texts l)).toArray⟩
theorem kW(l:List QV):(texts l).length=l.length:=by simp[texts]
theorem zm(l:List QV)(k:Nat)(h:k<l.length):(texts l).getD k []= (l.getD k ByteArray.empty).data.toList:=by simp[texts,List.getD,h]
variable {give:QV}{l:List QV}
theorem lm(h:30<give.size\/100<l.length\/∃i,i<l.length/\200<(l.getD i ByteArray.empty).size):pJ give l=ByteArray.empty:=by
 unfold pJ nM;rw[QI]
 .rfl
 .rcases h with h|h|⟨i,b,c⟩
  .left;simpa using h
  .right;left;simpa[texts] using h
  .right;right
   refine⟨(l.getD i ByteArray.empty).data.toList,?_,by simpa using c⟩;simp[texts,List.getD,b];exact⟨_,PL b,rfl⟩
def qR(give:QV)(l:List QV):Prop:=give.size<=30/\l.length<=100/\∀i,i<l.length->(l.getD i ByteArray.empty).size<=200
theorem qR.not(h:qR give l):¬(30<give.data.toList.length\/100<(texts l).length\/(∃t∈texts l,200<t.length)):=by
 rintro (g|g|⟨t,b,g⟩)
 .have:=h.1;simp at g;omega
 .have:=h.2.1;simp[texts] at g;omega
 .simp only[texts,PX] at b;obtain⟨x,d,rfl⟩:=b;obtain⟨i,c,rfl⟩:=PN d;have:=h.2.2 i c;simp[List.getD,c] at this g;omega
variable {b:QV}
theorem zi(h:qR give l)(a:b.data.toList=kV give.data.toList (texts l))(d:b.size<=200):pJ give l=b:=by
 unfold pJ nM;rw[QJ h.not,QI (by rw[<-a];simpa using d),<-a]
theorem Bw(h:qR give l)(a:b.data.toList=kV give.data.toList (texts l))(d:200<b.size):pJ give l= ⟨(35 :: kJ 16 (sumOf b.data.toList).toNat).toArray⟩:=by
 unfold pJ nM;rw[QJ h.not,QJ (by rw[<-a];simp;omega),<-a]
theorem BF{a:QV}(h:a.data.toList=b.data.toList):a=b:=by
 cases a;cases b;simp at h;simp[h]
theorem gG(a b:QV):(a++b).data.toList=a.data.toList++b.data.toList:=by simp[ByteArray.data_append]
theorem mE{a:QV}(h:a=b):Ending.returned (.string a)=.returned (.string b):=by rw[h]
theorem MX(n:Nat)(h:n<16):(((⟨#[48,49,50,51,52,53,54,55,56,57,97,98,99,100,101,102]⟩:QV).extract n 16).extract 0 1).data.toList=[pQ n]:=by
 have:∀m:Fin 16,(((⟨#[48,49,50,51,52,53,54,55,56,57,97,98,99,100,101,102]⟩:QV).extract m.val 16).extract 0 1).data.toList=[pQ m.val]:=by decide+kernel
 exact this ⟨n,h⟩
structure Q_ where
 name:QV
 over:Bool
 fail:Bool
 text:QV
 at':Int
 Zq:Int
 texts:List QV
def fu(l:List QV)(m:QV):Bool:=l.any λx=>decide (x=m)
theorem dh{l:List QV}{m:QV}:fu l m=true↔m∈l:=by simp[fu]
def Q_.fresh(n:QV):Q_:=⟨n,false,false,⟨#[]⟩,0,0,[]⟩
def yU(n:QV):QV:=(⟨#[110,111,32]⟩:QV)++n
def ou :QV:=⟨#[115,112,101,110,116]⟩
abbrev Env :=QV->Option Q_
abbrev bf :=QV->Option gu
variable {n:QV}{σ:Env}{r:Q_}
section
variable (W:bf)
def bI(σ:Env)(n:QV):Option Xz:=
 match W n with
 |none=>some ⟨true,yU n⟩
 |some _=>match σ n with
  |some r=>if r.over=true then some ⟨r.fail,r.text⟩ else none
  |none=>none
def Yz(σ:Env):List QV->Option (List Xz)
 |[]=>some []
 |a :: l=>match bI W σ a with
  |none=>none
  |some x=>match Yz σ l with
   |none=>none
   |some y=>some (x :: y)
def stepOf(a:gu)(i:Int):Xq:=a.steps.getD i.toNat Xq.zero
def bD(xs:List Xz):List QV:=(xs.filter λx=>!x.fail).map (·.text)
def pY :List Xz->Nat->Option Nat
 |[],_=>none
 |x :: l,i=>if x.fail=true then some i else pY l (i+1)
def pV(t:QV)(els:Int):List bQ->Int
 |[]=>els
 |c :: l=>if c.text=t then c.goto else pV t els l
def fV(s:Xq)(xs:List Xz):cO:=
 match pY xs 0 with
 |some i=>if s.fall= -1 then ⟨0,true,0,kU s i⟩ else ⟨0,false,s.fall,⟨#[]⟩⟩
 |none=>⟨0,false,if xs.length=0 then s.els else pV (ni xs s.on) s.els s.cases,⟨#[]⟩⟩
def gF(a:gu)(r:Q_):Q_×List QV:=
 (if (stepOf a r.at').fin=true then {r with Zq:=r.Zq+1,over:=true,fail:=(stepOf a r.at').bad,text:=pJ (stepOf a r.at').give r.texts} else {r with Zq:=r.Zq+1},(stepOf a r.at').asks)
def Xx(σ:Env)(r:Q_):Q_×List QV:=
 match W r.name with
 |none=>(r,[])
 |some a=>
  if r.Zq=0 then gF a r else
  match Yz W σ (stepOf a r.at').asks with
  |none=>(r,[])
  |some xs=>
   if r.Zq=20 then ({r with over:=true,fail:=true,text:=ou},[]) else
   if (fV (stepOf a r.at') xs).over=true then ({r with Zq:=r.Zq+1,over:=true,fail:=true,text:=(fV (stepOf a r.at') xs).text},[]) else
   gF a {r with texts:=r.texts++bD xs,at':=(fV (stepOf a r.at') xs).at'}
def bg(σ:Env)(r:Q_):Prop:=r.over=false/\(r.Zq=0\/∃a xs,W r.name=some a/\Yz W σ (stepOf a r.at').asks=some xs)
def aT(σ:Env)(n:QV):Prop:=∃r,σ n=some r/\bg W σ r
def doX(σ:Env)(n:QV):Env:=
 match σ n with
 |none=>σ
 |some r=>λm=>if m=n then some (Xx W σ r).1 else
  match σ m with
  |some x=>some x
  |none=>if fu (Xx W σ r).2 m=true/\(W m).isSome=true then some (Q_.fresh m) else none
variable {W}
theorem eD(h:σ n=some r)(k:QV):doX W σ n k=if k=n then some (Xx W σ r).1 else match σ k with|some x=>some x|none=>if fu (Xx W σ r).2 k=true/\(W k).isSome=true then some (Q_.fresh k) else none:=by
 unfold doX;rw[h]
theorem fD{m:QV}(h:m≠n){x:Q_}(a:σ m=some x):doX W σ n m=some x:=by
 unfold doX;cases c:σ n with
 |none=>simpa using a
 |some r=>simp[h,a]
theorem iT(h:σ n=some r):doX W σ n n=some (Xx W σ r).1:=by
 unfold doX;simp[h]
theorem FN{a:QV}{x:Xz}(f:aT W σ n)(h:bI W σ a=some x):bI W (doX W σ n) a=some x:=by
 unfold bI at h⊢;cases c:W a with
 |none=>simpa[c] using h
 |some act=>
  simp only[c] at h⊢;cases b:σ a with
  |none=>simp[b] at h
  |some r=>
   simp only[b] at h;by_cases e:a=n
   .subst e;obtain⟨j,d,i⟩:=f;rw[b] at d;cases d;rw[QJ (by rw[i.1];simp)] at h;cases h
   .rw[fD e b];exact h
theorem lW(d:aT W σ n):∀{l:List QV}{xs:List Xz},Yz W σ l=some xs->Yz W (doX W σ n) l=some xs
 |[],_,h=>h
 |a :: l,xs,h=>by
  unfold Yz at h⊢;cases b:bI W σ a with
  |none=>simp[b] at h
  |some x=>
   simp only[b] at h;cases c:Yz W σ l with
   |none=>simp[c] at h
   |some y=>
    simp only[c] at h;rw[FN d b,lW d c];exact h
theorem bg.mono(b:aT W σ n)(h:bg W σ r):bg W (doX W σ n) r:=
 ⟨h.1,h.2.imp id λ⟨a,d,e,f⟩=>⟨a,d,e,lW b f⟩⟩
theorem qf(e:aT W σ n)(h:bg W σ r):Xx W (doX W σ n) r=Xx W σ r:=by
 unfold Xx;cases f:W r.name with
 |none=>rfl
 |some a=>
  simp only;by_cases c:r.Zq=0
  .simp[c]
  .rcases h.2 with b|⟨i,j,b,d⟩
   .exact QK b c
   .rw[f] at b;cases b;simp only[c,if_false];rw[lW e d,d]
theorem oP :yI (aT W) (doX W):=by
 intro σ n m b c f;obtain⟨r,d,l⟩:=c;obtain⟨q,e,h⟩:=f;have c:aT W σ n:=⟨r,d,l⟩;have f:aT W σ m:=⟨q,e,h⟩;have p:doX W σ n m=some q:=fD (Ne.symm b) e;have t:doX W σ m n=some r:=fD b d;refine⟨⟨q,p,h.mono c⟩,?_⟩;have v:Xx W (doX W σ n) q=Xx W σ q:=qf c h;have w:Xx W (doX W σ m) r=Xx W σ r:=qf f l
 funext k
 have L:doX W (doX W σ n) m k=if k=m then some (Xx W σ q).1 else match doX W σ n k with|some x=>some x|none=>if fu (Xx W σ q).2 k=true/\(W k).isSome=true then some (Q_.fresh k) else none:=by
  rw[eD p,v]
 have R:doX W (doX W σ m) n k=if k=n then some (Xx W σ r).1 else match doX W σ m k with|some x=>some x|none=>if fu (Xx W σ r).2 k=true/\(W k).isSome=true then some (Q_.fresh k) else none:=by
  rw[eD t,w]
 rw[L,R];by_cases i:k=m
 .subst i;rw[QI rfl,QJ (Ne.symm b),iT e]
 .by_cases j:k=n
  .subst j;rw[QJ b,QI rfl,iT d]
  .rw[QJ i,QJ j];have y:doX W σ n k=match σ k with|some x=>some x|none=>if fu (Xx W σ r).2 k=true/\(W k).isSome=true then some (Q_.fresh k) else none:=by
    rw[eD d,QJ j]
   have z:doX W σ m k=match σ k with|some x=>some x|none=>if fu (Xx W σ q).2 k=true/\(W k).isSome=true then some (Q_.fresh k) else none:=by
    rw[eD e,QJ i]
   rw[y,z];cases A:σ k with
   |some x=>rfl
   |none=>
    simp only;by_cases s:fu (Xx W σ r).2 k=true/\(W k).isSome=true
    .rw[QI s];by_cases a:fu (Xx W σ q).2 k=true/\(W k).isSome=true
     .rw[QI a]
     .rw[QJ a]
    .rw[QJ s];by_cases a:fu (Xx W σ q).2 k=true/\(W k).isSome=true
     .rw[QI a]
     .rw[QJ a]
def Behind(p:Q_->Q_->Prop)(G:Env)(σ:Env)(n:QV):Prop:=aT W σ n/\∃r g,σ n=some r/\G n=some g/\p r g
theorem f_(i:bg W σ r)(d:(W r.name).isSome=true):((Xx W σ r).1.Zq=r.Zq+1)\/(r.Zq=20/\(Xx W σ r).1.Zq=20/\(Xx W σ r).1.over=true):=by
 unfold Xx;cases e:W r.name with
 |none=>rw[e] at d;cases d
 |some a=>
  simp only;by_cases b:r.Zq=0
  .left
   simp only[b,if_true];unfold gF
   split<;>simp[b]
  .rcases i.2 with c|⟨l,j,c,k⟩
   .exact QK c b
   .rw[e] at c;cases c;simp only[b,if_false,k];by_cases f:r.Zq=20
    .right
     simp[f]
    .left
     simp only[f,if_false];by_cases h:(fV (stepOf a r.at') j).over=true
     .simp[h]
     .simp only[h];unfold gF;simp only[Bool.false_eq_true,if_false]
      split<;>simp
theorem dz :(Xx W σ r).1.name=r.name:=by
 unfold Xx gF
 repeat' split
 all_goals rfl
end
variable {n:QV}
section
variable {W:bf}
structure Q_.Ok (W:bf)(n:QV)(r:Q_):Prop where
 name:r.name=n
 web:(W n).isSome=true
 lo:0<=r.Zq
 hi:r.Zq<=20
def WfX(W:bf)(σ:Env):Prop:=∀n r,σ n=some r->r.Ok W n
theorem Ay{σ:Env}{r:Q_}(h:r.Ok W n)(c:bg W σ r):(Xx W σ r).1.Ok W n:=by
 have d:=f_ c (by rw[h.name];exact h.web);refine⟨by rw[dz];exact h.name,h.web,?_,?_⟩
 .have:=h.lo;rcases d with e|⟨_,e,_⟩<;>omega
 .rcases d with e|⟨_,e,_⟩
  .have:=h.hi;by_cases f:r.Zq=20
   .exfalso
    have k:(Xx W σ r).1.Zq=r.Zq:=by
     unfold Xx;cases i:W r.name with
     |none=>rfl
     |some a=>
      simp only;rw[QJ A7];rcases c.2 with b|⟨l,m,b,j⟩
      .omega
      .rw[i] at b;cases b;simp[j,f]
    omega
   .omega
  .omega
theorem ze{σ:Env}(h:WfX W σ)(d:aT W σ n):WfX W (doX W σ n):=by
 intro m x a;obtain⟨r,c,f⟩:=d;rw[eD c] at a;by_cases e:m=n
 .rw[QI e] at a;cases a;rw[e];exact Ay (h n r c) f
 .rw[QJ e] at a;cases b:σ m with
  |some y=>
   rw[b] at a;simp only[Ql] at a;subst a;exact h m y b
  |none=>
   rw[b] at a;simp only at a
   split at a
   .rename_i hc2
    cases a;exact⟨rfl,hc2.2,Int.le_refl _,by show (0:Int)<=20;omega⟩
   .cases a
def xh(r g:Q_):Prop:=r.Zq<g.Zq\/(r.Zq=g.Zq/\g.over=true/\20<=r.Zq)
def pg :Option Q_->Nat
 |none=>23
 |some r=>if r.over=true then 0 else 22-r.Zq.toNat
def dQ(Kq:List QV)(σ:Env):Nat:=(Kq.map λn=>pg (σ n)).sum
theorem LG{σ:Env}{m:QV}(d:WfX W σ)(f:aT W σ n):pg (doX W σ n m)<=pg (σ m)/\(m=n->pg (doX W σ n m)<pg (σ m)):=by
 obtain⟨r,a,c⟩:=f;have b:=d n r a;by_cases e:m=n
 .subst e;have:pg (doX W σ m m)<pg (σ m):=by
   rw[iT a,a];have j:=b.lo;have k:=b.hi;show (if (Xx W σ r).1.over=true then 0 else 22-(Xx W σ r).1.Zq.toNat)<(if r.over=true then 0 else 22-r.Zq.toNat);have h:(if r.over=true then 0 else 22-r.Zq.toNat)=22-r.Zq.toNat:=by rw[c.1];rfl
   rw[h];rcases f_ c (by rw[b.name];exact b.web) with e|⟨e1,e,eo⟩
   .split
    .omega
    .rw[e];omega
   .rw[QI eo];omega
  exact⟨Nat.le_of_lt this,λ_=>this⟩
 .refine⟨?_,λi=>QK i e⟩;rw[eD a,QJ e];cases l:σ m with
  |some x=>exact Pw _
  |none=>
   simp only
   split
   .show 22-0<=23;omega
   .exact Pw _
theorem uQ{σ:Env}(a:WfX W σ)(b:aT W σ n):∀(Kq:List QV),dQ Kq (doX W σ n)<=dQ Kq σ/\(n∈Kq->dQ Kq (doX W σ n)<dQ Kq σ)
 |[]=>⟨Pw _,λh=>by cases h⟩
 |m :: l=>by
  obtain⟨i,c⟩:=uQ a b l;obtain⟨j,d⟩:=LG (m:=m) a b;have e:dQ (m :: l) (doX W σ n)=pg (doX W σ n m)+dQ l (doX W σ n):=by simp[dQ]
  have f:dQ (m :: l) σ=pg (σ m)+dQ l σ:=by simp[dQ]
  rw[e,f];refine⟨A7,λh=>?_⟩;rcases Qr.1 h with h|h
  .have:=d h.symm;omega
  .have:=c h;omega
end
theorem toList_inj{a b:QV}:a.toList=b.toList↔a=b:=by
 refine⟨λh=>BF ?_,λh=>by rw[h]⟩;rw[ByteArray.toList_eq,ByteArray.toList_eq] at h;exact h
theorem uC{a b:QV}(h:(a.toList == b.toList)=false):a≠b:=λe=>by rw[e] at h;simp at h
theorem iV{a b:QV}(h:(a.toList == b.toList)=true):a=b:=toList_inj.1 (by simpa using h)
def Q_.zero :Q_:=Q_.fresh ByteArray.empty
def Q_.cells(r:Q_)(xa:QW)(xc:Nat):List QY:=[.string r.name,.bool r.over,.bool r.fail,.string r.text,.b r.at',.b r.Zq,.slice xa r.texts.length xc]
theorem Q_.one(r:Q_)(x:QW)(c:Nat):∀u∈r.cells x c,u.oneCell'=true:=by
 intro u a;simp only[Q_.cells,Qr,Qs,or_false] at a;rcases a with rfl|rfl|rfl|rfl|rfl|rfl|rfl<;>rfl
def jD(w:QX)(a:QW)(l:List Q_):Prop:=
 ∀i,i<l.length->∃b o xa xc,a=some ⟨b,o,none⟩/\b<w.heap.size/\w.rangeAt b (o+i*7) ((l.getD i Q_.zero).cells xa xc)/\Strs w xa (l.getD i Q_.zero).texts/\(xa=none->xc=0)
variable {w:QX}
theorem jD.kept{w':QX}{a:QW}{l:List Q_}(h:jD w a l)(k:K_ w w'):jD w' a l:=by
 intro i c;obtain⟨d,o,e,f,j,b,m,n,p⟩:=h i c;exact⟨d,o,e,f,j,Px b k.size,k.range b m,n.kept k,p⟩
def Qq(l:List Q_):Env:=λn=>l.find? λr=>decide (r.name=n)
variable {n:QV}
theorem CZ{l:List Q_}(h:∀j,j<l.length->(l.getD j Q_.zero).name≠n):Qq l n=none:=by
 unfold Qq;rw[List.find?_eq_none];intro r c;obtain⟨j,a,e⟩:=PN c;have:=h j a;simp only[List.getD,PE a,e,QL] at this;simpa using this
theorem FD :∀{l:List Q_}{k:Nat},k<l.length->(l.getD k Q_.zero).name=n->(∀j,j<k->(l.getD j Q_.zero).name≠n)->Qq l n=some (l.getD k Q_.zero)
 |[],_,hk,_,_=>aS hk
 |r :: l,0,_,h,_=>by
  have a:r.name=n:=h;simp[Qq,List.find?,a,List.getD]
 |r :: l,k+1,hk,h,hj=>by
  have b:r.name≠n:=hj 0 A7;have e:Qq (r :: l) n=Qq l n:=by simp[Qq,List.find?,b]
  rw[e,FD (k:=k) (by simpa using hk) h λj d=>hj (j+1) A7]
  rfl
def Lb(l:List Q_)(n:QV)(r:Int):Prop:=(∃k:Nat,k<l.length/\r= (k:Int)/\Qq l n=some (l.getD k Q_.zero)/\(l.getD k Q_.zero).name=n)\/(r= -1/\Qq l n=none)
def Kk(Kq:List Qz):bf:=λn=>(Kq.find? λd=>decide (d.name=n)).map λd=>⟨d.cost,d.steps⟩
theorem uA{l:List Qz}(h:∀j,j<l.length->(l.getD j Qz.zero).name≠n):Kk l n=none:=by
 unfold Kk;rw[Option.map_eq_none_iff,List.find?_eq_none];intro r c;obtain⟨j,a,e⟩:=PN c;have:=h j a;simp only[List.getD,PE a,e,QL] at this;simpa using this
theorem xe :∀{l:List Qz}{k:Nat},k<l.length->(l.getD k Qz.zero).name=n->(∀j,j<k->(l.getD j Qz.zero).name≠n)->Kk l n=some ⟨(l.getD k Qz.zero).cost,(l.getD k Qz.zero).steps⟩
 |[],_,hk,_,_=>aS hk
 |r :: l,0,_,h,_=>by
  have a:r.name=n:=h;simp[Kk,List.find?,a,List.getD]
 |r :: l,k+1,hk,h,hj=>by
  have b:r.name≠n:=hj 0 A7;have e:Kk (r :: l) n=Kk l n:=by simp[Kk,List.find?,b]
  rw[e,xe (k:=k) (by simpa using hk) h λj d=>hj (j+1) A7]
  rfl
def LX(l:List Qz)(n:QV)(r:Int):Prop:=(∃k:Nat,k<l.length/\r= (k:Int)/\Kk l n=some ⟨(l.getD k Qz.zero).cost,(l.getD k Qz.zero).steps⟩/\(l.getD k Qz.zero).name=n/\∀j,j<k->(l.getD j Qz.zero).name≠n)\/(r= -1/\Kk l n=none)
theorem iq{A:gu}:∀{l:List Qz},Kk l n=some A->∃k,k<l.length/\(l.getD k Qz.zero).name=n/\(∀j,j<k->(l.getD j Qz.zero).name≠n)/\A= ⟨(l.getD k Qz.zero).cost,(l.getD k Qz.zero).steps⟩
 |[],h=>by simp[Kk] at h
 |d :: l,h=>by
  by_cases e:d.name=n
  .refine⟨0,A9,e,λj a=>aS a,?_⟩;simp[Kk,e] at h;exact h.symm
  .have b:Kk (d :: l) n=Kk l n:=by simp[Kk,List.find?,e]
   rw[b] at h;obtain⟨k,c,f,i,m⟩:=iq h;refine⟨k+1,by simpa using c,f,λj a=>?_,m⟩;cases j with
   |zero=>exact e
   |succ j=>exact i j A7
theorem oN{l:List Qz}{k a:Nat}(h:(l.getD k Qz.zero).name=n)(b:∀j,j<k->(l.getD j Qz.zero).name≠n)(g:(l.getD a Qz.zero).name=n)(c:∀j,j<a->(l.getD j Qz.zero).name≠n):k=a:=by
 rcases QH k a with e|e|e
 .exact QK h (c k e)
 .exact e
 .exact QK g (b a e)
def Il(Kq:List Qz)(l:List Q_)(n:QV)(e:Ending):Prop:=
 ∃(f:Bool)(t:QV)(ok:Bool),e=.returned (.tuple #[.agg #[.bool f,.string t],.bool ok])/\bI (Kk Kq) (Qq l) n=if ok=true then some ⟨f,t⟩ else none
structure jA (w:QX)(kb:Nat)(a:QW)(n cap:Nat)(d:QW)(m dc:Nat):Prop where
 row:aH w kb 57 2
 web:w.cell? ⟨kb,0,none⟩=some (.slice a n cap)
 runs:w.cell? ⟨kb,1,none⟩=some (.slice d m dc)
theorem jA.kept{w':QX}{c n cap m dc:Nat}{a d:QW}(h:jA w c a n cap d m dc)(k:K_ w w'):jA w' c a n cap d m dc:=
 ⟨h.row.kept k,(k.cell h.row.lt).trans h.web,(k.cell h.row.lt).trans h.runs⟩
theorem iY(w:QX)(a:QW)(cap:Nat)(l:List Qz)(c:QV)(z:l.length<=1048576)(t:dS w a l):
  Calls prog 15 #[.agg #[.slice a l.length cap],.string c] w λe w'=>(∃r,e=.returned (.b r)/\LX l c r)/\K_ w w':=by
 have f:K_ w (w.alloc (.cells #[.slice a l.length cap] 25)):=ai _ _;go_enter func15,ntmps15
 go_wp2
 go_loop [5] (λi=>∃k:Nat,k<=l.length/\i=.b k/\Hid (∀j,j<k->(l.getD j Qz.zero).name≠c)) λi=>l.length-(intOf i).toNat
 case atStart=>exact⟨0,Py _,rfl,Kz λj h=>aS h⟩
 case round=>
  obtain⟨k,A,rfl,d⟩:=hrel;by_cases m:k<l.length
  .obtain⟨b,o,B,rfl,C,n,D,E,rfl,v⟩:=(t.kept f) k m;obtain⟨x,p⟩:=aj (l.getD k Qz.zero);rw[<-p] at n;have y:=n 0 _ rfl;rw[Qp] at y;have q:=Kz p;clear n p v;cases s:(x.name.toList == c.toList)
   .go_wp2
    go_round
    case rel=>
     refine⟨k+1,A7,C8,Kz λj h=>?_⟩;by_cases e:j=k
     .rw[e,<-q.o];exact uC s
     .exact d.o j A7
    case measure=>simp[intOf];omega
   .go_wp2
    go_ret
    exact⟨⟨k,rfl,.inl ⟨k,m,rfl,xe m (by rw[<-q.o];exact iV s) d.o,(by rw[<-q.o];exact iV s),d.o⟩⟩,f⟩
  .go_wp2
   go_ret
   exact⟨⟨-1,rfl,.inr ⟨rfl,uA λj h=>d.o j A7⟩⟩,f⟩
theorem LP(w:QX)(v:Nat)(a:QW)(n cap:Nat)(d:QW)(dc:Nat)(l:List Q_)(c:QV)(B:l.length<=1048576)(x:jA w v a n cap d l.length dc)(z:jD w d l):
  Calls prog 33 #[.h v,.string c] w λe w'=>(∃r,e=.returned (.b r)/\Lb l c r)/\w'=w:=by
 have C:=x.runs;have D:=x.row.lt;go_enter func33,ntmps33
 go_wp2
 go_loop [5] (λi=>∃k:Nat,k<=l.length/\i=.b k/\Hid (∀j,j<k->(l.getD j Q_.zero).name≠c)) λi=>l.length-(intOf i).toNat
 case atStart=>exact⟨0,Py _,rfl,Kz λj f=>aS f⟩
 case round=>
  obtain⟨k,E,rfl,h⟩:=hrel;by_cases m:k<l.length
  .obtain⟨b,o,F,G,rfl,H,p,_,_⟩:=z k m;obtain⟨y,q⟩:=aj (l.getD k Q_.zero);rw[<-q] at p;have A:=p 0 _ rfl;rw[Qp] at A;have s:=Kz q;clear p q;cases t:(y.name.toList == c.toList)
   .go_wp2
    go_round
    case rel=>
     refine⟨k+1,A7,C8,Kz λj f=>?_⟩;by_cases e:j=k
     .rw[e,<-s.o];exact uC t
     .exact h.o j A7
    case measure=>simp[intOf];omega
   .go_wp2
    go_ret
    exact⟨⟨k,rfl,.inl ⟨k,m,rfl,FD m (by rw[<-s.o];exact iV t) h.o,by rw[<-s.o];exact iV t⟩⟩,rfl⟩
  .go_wp2
   go_ret
   exact⟨⟨-1,rfl,.inr ⟨rfl,CZ λj f=>h.o j A7⟩⟩,rfl⟩
theorem oG(w:QX)(t:QW)(v rc:Nat)(d:QW)(dc:Nat)(l:List Q_)(a:QV)(A:l.length<=1048576)(x:jD w d l):
  Calls prog 36 #[.agg #[.slice t v rc,.slice d l.length dc],.string a] w λe w'=>(∃r,e=.returned (.b r)/\Lb l a r)/\K_ w w':=by
 have c:K_ w (w.alloc (.cells #[.slice t v rc,.slice d l.length dc] 68)):=ai _ _;go_enter func36,ntmps36
 go_wp2
 go_loop [5] (λi=>∃k:Nat,k<=l.length/\i=.b k/\Hid (∀j,j<k->(l.getD j Q_.zero).name≠a)) λi=>l.length-(intOf i).toNat
 case atStart=>exact⟨0,Py _,rfl,Kz λj f=>aS f⟩
 case round=>
  obtain⟨k,B,rfl,h⟩:=hrel;by_cases m:k<l.length
  .obtain⟨b,o,C,D,rfl,E,n,_,_⟩:=(x.kept c) k m;obtain⟨y,p⟩:=aj (l.getD k Q_.zero);rw[<-p] at n;have z:=n 0 _ rfl;rw[Qp] at z;have q:=Kz p;clear n p;cases s:(y.name.toList == a.toList)
   .go_wp2
    go_round
    case rel=>
     refine⟨k+1,A7,C8,Kz λj f=>?_⟩;by_cases e:j=k
     .rw[e,<-q.o];exact uC s
     .exact h.o j A7
    case measure=>simp[intOf];omega
   .go_wp2
    go_ret
    exact⟨⟨k,rfl,.inl ⟨k,m,rfl,FD m (by rw[<-q.o];exact iV s) h.o,by rw[<-q.o];exact iV s⟩⟩,c⟩
  .go_wp2
   go_ret
   exact⟨⟨-1,rfl,.inr ⟨rfl,CZ λj f=>h.o j A7⟩⟩,c⟩
theorem Tryz.ma :(prog.info? 50).map (·.size)=some 2:=C9
theorem bX{P:Program}{e:Func}{R:Ending->QX->Prop}{a:Act}{p q:Tmp}{c:TypeId}{b:Nat}(cs:List QY)(d:TypeDesc)(v:QY)(h:e.results= #[.cell p c,.tmp q])(f:a.tmps.getD p undef=.h b)(i:w.rangeAt b 0 cs)(j:P.underlying c=some d)(k:d.isRow=true)(l:(P.info? c).map (·.size)=some cs.length)(m:a.tmps.getD q undef=v)(n:a.defers=[])(r:R (.returned (.tuple #[.agg cs.toArray,v])) w):bodyPost P e R .ret a w:=by
 refine bodyPost_ret ?_ n r;have s:a.tmps[p]?.getD undef=.h b:=by simpa using f
 have t:a.tmps[q]?.getD undef=v:=by simpa using m
 simp only[results,h];simp[s,t,asAddr,run_loadVar_mid w b 0 c cs d i j k l]
theorem K_.mX{w1:QX}(k:K_ w w1){i:Nat}(v:QY):K_ w (w1.setCell ⟨w.heap.size,i,none⟩ v):=Below.setCell k (p:=⟨w.heap.size,i,none⟩) (Pw _) v
theorem Zj{b c o p:Nat}(h:b≠c){v:QY}:(w.setCell ⟨c,p,none⟩ v).cell? ⟨b,o,none⟩=w.cell? ⟨b,o,none⟩:=PU _ _ _ _ λe=>h (congrArg Addr.block e).symm
def Ki(Kq:List Qz)(l:List Q_)(n:QV)(e:Ending):Prop:=
 ∃(f:Bool)(t:QV)(ok:Bool),e=.returned (.tuple #[.agg #[.bool f,.string t],.bool ok])/\bI (Kk Kq) (Qq l) n= (if ok=true then some ⟨f,t⟩ else none)/\(ok=false->f=false/\t= ⟨#[]⟩)
theorem vY(w:QX)(s:Nat)(a:QW)(cap:Nat)(Kq:List Qz)(d:QW)(dc:Nat)(l:List Q_)(n:QV)(W:Kq.length<=1048576)(X:l.length<=1048576)(hn:n.size<=1000)(b:jA w s a Kq.length cap d l.length dc)(Y:dS w a Kq)(I:jD w d l):
  Calls prog 14 #[.h s,.string n] w λe w'=>Ki Kq l n e/\K_ w w':=by
 have c:K_ w (w.alloc (.cells #[.bool false,.string ⟨#[]⟩] 50)):=ai _ _;have a8:=b.row.lt;have Z:=(b.kept c).web;have E:=(b.kept c).row.lt;go_enter func14,ntmps14
 go_wp2_with fail
 refine (iY _ a cap Kq n W (Y.kept c)).mono ?_;rintro e w1 ⟨⟨a9,rfl,hr⟩,h⟩;have j:Hid (aH w1 w.heap.size 50 2):=(aH.made w #[.bool false,.string ⟨#[]⟩] 50).kept h;obtain⟨⟨_,J⟩,L⟩:=j.o.row.at (i:=0) A7;obtain⟨⟨_,M⟩,N⟩:=j.o.row.at (i:=1) A7;have O:=j.o.lt;clear Z E;rcases hr with⟨a0,hk,rfl,t,_⟩|⟨rfl,t⟩
 .have b0:¬(a0:Int)<0:=A7;have F:=(b.kept c).kept h;have z:=(I.kept c).kept h;have v:=Kz t;clear t;go_wp2_with fail
  refine (LP w1 s a Kq.length cap d dc l n X F z).mono ?_;rintro e w2 ⟨⟨r2,rfl,a1⟩,P⟩;rw[P];clear P w2;rcases a1 with⟨k,Q,rfl,q,_⟩|⟨rfl,q⟩
  .have b1:¬(k:Int)<0:=A7;have b2:(k:Int)<(l.length:Int):=A7;obtain⟨y,G⟩:=aj (l.getD k Q_.zero);rw[<-G] at q;obtain⟨A,o,_,_,rfl,b3,_⟩:=I k Q;obtain⟨b4,o1,xa,xc,R,hb,r,_,_⟩:=z k Q;simp only[Ql,QS,and_true] at R;obtain⟨rfl,rfl⟩:=R;rw[<-G] at r;have S:=r 1 _ rfl;have c2:=r 2 _ rfl;have c3:=r 3 _ rfl;have E:=F.runs;have qz:=F.row.lt;have⟨B,HC⟩:=aJ q r;clear G r q z;cases C:y.over
   .rw[C] at S;go_wp2_with fail
    have p:=PD w1 w.heap.size 0 [.bool false,.string ⟨#[]⟩] (j.o.row.there (o:=0) (m:=2) (Pw _));refine bX [.bool false,.string ⟨#[]⟩] _ (.bool false) results14 rfl p underlying50 rfl Tryz.ma rfl rfl ?_;exact⟨⟨false,⟨#[]⟩,false,rfl,by unfold bI;rw[v.o,B.o];simp[C],λ_=>⟨rfl,rfl⟩⟩,((c.trans h).mX _).mX _⟩
   .rw[C] at S;go_upto_region 6 with fail
    refine Qk.region C9 (λw'=>w'.cell? ⟨s,1,none⟩=some (.slice (some ⟨A,o,none⟩) l.length dc)/\w'.cell? ⟨A,o+k*7+2,none⟩=some (.bool y.fail)/\w'.cell? ⟨A,o+k*7+3,none⟩=some (.string y.text)) 18 ⟨E,c2,c3⟩ λf=>?_;have a2:w1.drew.cell? ⟨w.heap.size,0,none⟩=some _:=J;have a3:w1.drew.cell? ⟨w.heap.size,1,none⟩=some _:=M;have a4:w1.drew.frozen? ⟨w.heap.size,0,none⟩=false:=L;have a5:w1.drew.frozen? ⟨w.heap.size,1,none⟩=false:=N;have a6:w.heap.size<w1.drew.heap.size:=O;have H:K_ w1 w1.drew:=a_ _;have T:=Kz (j.o.kept H);have U:=h.trans H;generalize a7:w1.drew=wd at f a2 a3 a4 a5 a6 T U⊢;clear a7 H J M L N O;refine ax 0 f ?_;refine ax 4 f ?_;refine ax 8 f ?_;refine ax 12 f ?_;refine ae 16 f ?_;have V:s≠w.heap.size:=A7;have D:A≠w.heap.size:=A7;refine au 17 λK b=>?_;go_simp
    refine af b (λ_=>⟨by rw[Zj V,Zj V];exact f.1,by rw[Zj D,Zj D];exact f.2.1,by rw[Zj D,Zj D];exact f.2.2⟩) ?_;clear b K;refine au 18 λK b=>?_;go_simp
    refine af b (λx=>QK rfl x) ?_;clear b K;refine aF ?_;go_wp2_with fail
    have p:=PD wd w.heap.size 0 [.bool y.fail,.string y.text] (T.o.row.there (o:=0) (m:=2) (Pw _));refine bX [.bool y.fail,.string y.text] _ (.bool true) results14 rfl p underlying50 rfl Tryz.ma rfl rfl ?_;exact⟨⟨y.fail,y.text,true,rfl,by unfold bI;rw[v.o,B.o];simp[C],λx=>by cases x⟩,((c.trans U).mX _).mX _⟩
  .have B:=Kz q;clear q z;go_wp2_with fail
   have p:=PD w1 w.heap.size 0 [.bool false,.string ⟨#[]⟩] (j.o.row.there (o:=0) (m:=2) (Pw _));refine bX [.bool false,.string ⟨#[]⟩] _ (.bool false) results14 rfl p underlying50 rfl Tryz.ma rfl rfl ?_;exact⟨⟨false,⟨#[]⟩,false,rfl,by unfold bI;rw[v.o,B.o];rfl,λ_=>⟨rfl,rfl⟩⟩,((c.trans h).mX _).mX _⟩
 .have v:=Kz t;clear t;have f3:¬9223372036854775807<3+n.size:=A7;go_wp2_with fail
  have p:=PD w1 w.heap.size 0 [.bool true,.string ((⟨#[110,111,32]⟩:QV)++n)] (j.o.row.there (o:=0) (m:=2) (Pw _));refine bX [.bool true,.string ((⟨#[110,111,32]⟩:QV)++n)] _ (.bool true) results14 rfl p underlying50 rfl Tryz.ma rfl rfl ?_;exact⟨⟨true,yU n,true,rfl,by unfold bI;rw[v.o];rfl,λx=>by cases x⟩,((c.trans h).mX _).mX _⟩
theorem FZ(w:QX)(b:Nat)(a:QW)(cap:Nat)(Kq:List Qz)(d:QW)(dc:Nat)(l:List Q_)(n:QV)(c:Kq.length<=1048576)(f:l.length<=1048576)(h:n.size<=1000)(i:jA w b a Kq.length cap d l.length dc)(j:dS w a Kq)(k:jD w d l):
  Calls prog 14 #[.h b,.string n] w λe w'=>Il Kq l n e/\K_ w w':=by
 refine (vY w b a cap Kq d dc l n c f h i j k).mono ?_;rintro e w' ⟨⟨m,t,ok,q,r,_⟩,s⟩;exact⟨⟨m,t,ok,q,r⟩,s⟩
theorem OW(vs:Array QY)(W:QX):(Instr.typeAssert (.iface 229 (.agg vs)) 211 229 true).run prog W=.ok (.tuple #[.agg vs,.bool true]) W:=C9
theorem Gc(w:QX)(s:Xq)(z:s.fin=false)(d f a:QW)(j k cap:Nat)(ans:List Xz)(A:s.Fits)(B:Strs w d s.asks)(C:lK w f s.cases)(D:ans.length<=maxLen)(E:∀c∈ans,c.text.size<=maxLen)(F:fI w a ans)(n:s.asks.length≠0->0<=s.on/\s.on<s.asks.length)(p:∀i,i<s.asks.length->(s.asks.getD i ByteArray.empty).size<=20):
  Calls prog 160 #[.iface 229 (.agg #[.slice d s.asks.length j,.b s.on,.slice f s.cases.length k,.b s.els,.b s.fall,.bool false,.bool s.bad,.string s.give]),.slice a ans.length cap] w λe w'=>(∃g,e=.returned (.agg g.cells.toArray)/\Followed s ans g)/\K_ w w':=by
 have q:∀W,K_ w W->Calls prog 174 #[.agg #[.slice d s.asks.length j,.b s.on,.slice f s.cases.length k,.b s.els,.b s.fall,.bool false,.bool s.bad,.string s.give],.slice a ans.length cap] W λe w'=>(∃g,e=.returned (.agg g.cells.toArray)/\Followed s ans g)/\K_ W w':=λW l=>by
  have h:=EM W s d f a j k cap ans A (B.kept l) (C.kept l) D E (F.kept l) n p;rw[z] at h;exact h
 have G:=Kz q;clear q n p;have M:=OW;go_enter func160,ntmps160
 go_wp2_with fail
 refine (bE G _ F5).mono ?_;rintro e w1 ⟨⟨g,rfl,r⟩,b⟩;have v:Row w1 w.heap.size 4:=Row.kept (Row.alloc (by have:=Row.made w #[.b 0,.bool false,.b 0,.string ⟨#[]⟩] 151;simpa using this) _) b;have H:K_ w w1:=K_.trans F5 b;obtain⟨c,o,t,x⟩:=g;have⟨I,J⟩:=aJ r v;clear r v;obtain⟨N,O⟩:=b.rules;have K:=b.size;simp only[Qh] at K;clear b;have y:(cO.mk c o t x).cells.toArray= #[.b c,.bool o,.b t,.string x]:=rfl;rw[y];clear y;go_wp2
 have L:=PD w1 w.heap.size 0 (cO.mk c o t x).cells (J.o.there (o:=0) (m:=4) (Pw _));exact Zx (cO.mk c o t x).cells _ results160 rfl L underlying151 rfl Tryz.ed rfl ⟨⟨_,rfl,I.o⟩,K_.setCells (g:=w.heap.size) A7 (cO.mk c o t x).cells 0 H⟩
def aQ(a b:QV):Prop:=Op.bytesLess a.toList b.toList=true
theorem aZ(a:QV):¬aQ a a:=λh=>by unfold aQ at h;rw[dB] at h;cases h
theorem iG{a b c:QV}(h:aQ a b)(g:aQ b c):aQ a c:=dX _ _ _ h g
theorem fC{a b:QV}(h:aQ a b):¬aQ b a:=λg=>aZ a (iG h g)
theorem fM{a b:QV}(h:aQ a b):a≠b:=λe=>by rw[e] at h;exact aZ b h
theorem dA(a b:QV):aQ a b\/a=b\/aQ b a:=by
 unfold aQ;cases h:Op.bytesLess a.toList b.toList with
 |true=>exact .inl rfl
 |false=>
  by_cases e:a=b
  .exact .inr (.inl e)
  .exact .inr (.inr (oI _ _ h λc=>e (toList_inj.1 c)))
def d_(l:List Q_):Prop:=l.Pairwise λx y=>aQ x.name y.name
variable {l:List Q_}{r:Q_}
theorem bA{n:QV}(h:Qq l n=some r):r∈l/\r.name=n:=by
 unfold Qq at h;exact⟨List.mem_of_find?_eq_some h,by simpa using List.find?_some h⟩
theorem bO(h:d_ l)(a:r∈l):Qq l r.name=some r:=by
 induction l with
 |nil=>cases a
 |cons x l ih=>
  rw[d_,QR] at h;rcases Qr.1 a with rfl|a
  .simp[Qq]
  .have c:x.name≠r.name:=fM (h.1 r a);have e:Qq (x :: l) r.name=Qq l r.name:=by simp[Qq,List.find?,c]
   rw[e];exact ih h.2 a
theorem BJ :∀{l l':List Q_},d_ l->d_ l'->(∀r,r∈l↔r∈l')->l=l'
 |[],[],_,_,_=>rfl
 |[],y :: ys,_,_,h=>by have:=(h y).2 A9;cases this
 |x :: xs,[],_,_,h=>by have:=(h x).1 A9;cases this
 |x :: xs,y :: ys,hl,hl',h=>by
  rw[d_,QR] at hl hl';have c:x=y:=by
   rcases Qr.1 ((h x).1 A9) with e|d
   .exact e
   .rcases Qr.1 ((h y).2 A9) with e|f
    .exact e.symm
    .exact QK (hl.1 y f) (fC (hl'.1 x d))
  subst c;rw[BJ hl.2 hl'.2 λr=>?_];constructor
  .intro a;rcases Qr.1 ((h r).1 (PS _ a)) with rfl|b
   .exact QK (hl.1 r a) (aZ _)
   .exact b
  .intro a;rcases Qr.1 ((h r).2 (PS _ a)) with rfl|b
   .exact QK (hl'.1 r a) (aZ _)
   .exact b
theorem Fs{a:List Q_}(h:d_ l)(d:d_ a)(e:Qq l=Qq a):l=a:=by
 refine BJ h d λr=>⟨λb=>?_,λb=>?_⟩
 .have:=bO h b;rw[e] at this;exact (bA this).1
 .have:=bO d b;rw[<-e] at this;exact (bA this).1
theorem qV(d:∀x∈l,∀y∈l,x.name=y.name->x=y){n:QV}:Qq l n=some r↔r∈l/\r.name=n:=by
 refine⟨bA,λ⟨b,c⟩=>?_⟩;cases h:Qq l n with
 |none=>
  unfold Qq at h;rw[List.find?_eq_none] at h;exact QK (by simpa using c) (h r b)
 |some x=>
  obtain⟨e,f⟩:=bA h;rw[d x e r b (f.trans c.symm)]
theorem qC(h:d_ l):∀x∈l,∀y∈l,x.name=y.name->x=y:=λx b y c d=>by
 have a:=bO h b;have e:=bO h c;rw[d,e] at a;exact (Qv a).symm
def dH(l:List Q_)(r:Q_):List Q_:=(l.filter λx=>Op.bytesLess x.name.toList r.name.toList)++r :: l.filter λx=>Op.bytesLess r.name.toList x.name.toList
theorem lY(h:d_ l):d_ (dH l r):=by
 unfold dH;rw[d_,P_];refine⟨h.filter _,?_,λx e y a=>?_⟩
 .rw[QR];exact⟨λy a=>(List.mem_filter.1 a).2,h.filter _⟩
 .have c:aQ x.name r.name:=(List.mem_filter.1 e).2;rcases Qr.1 a with rfl|a
  .exact c
  .exact iG c (List.mem_filter.1 a).2
theorem sK{x:Q_}:x∈dH l r↔x=r\/(x∈l/\x.name≠r.name):=by
 unfold dH;rw[PK,Qr,List.mem_filter,List.mem_filter];constructor
 .rintro (⟨a,b⟩|h|⟨a,b⟩)
  .exact .inr ⟨a,fM b⟩
  .exact .inl h
  .exact .inr ⟨a,Ne.symm (fM b)⟩
 .rintro (h|⟨a,b⟩)
  .exact .inr (.inl h)
  .rcases dA x.name r.name with c|c|c
   .exact .inl ⟨a,c⟩
   .exact QK c b
   .exact .inr (.inr ⟨a,c⟩)
theorem xL(h:d_ l)(n:QV):Qq (dH l r) n=if n=r.name then some r else Qq l n:=by
 have c:=qC (lY (r:=r) h);by_cases e:n=r.name
 .rw[QI e];exact (qV c).2 ⟨(sK).2 (.inl rfl),e.symm⟩
 .rw[QJ e];cases d:Qq l n with
  |some x=>
   obtain⟨b,a⟩:=bA d;exact (qV c).2 ⟨(sK).2 (.inr ⟨b,λf=>e (a.symm.trans f)⟩),a⟩
  |none=>
   cases i:Qq (dH l r) n with
   |none=>rfl
   |some x=>
    obtain⟨b,a⟩:=bA i;rcases (sK).1 b with rfl|⟨j,_⟩
    .exact QK a.symm e
    .have:=(qV (qC h)).2 ⟨j,a⟩;rw[d] at this;cases this
theorem jN :∀(l t:List Q_),d_ t->(∀x∈l,∀y∈l,x.name=y.name->x=y)->d_ (l.foldl dH t)/\∀n,Qq (l.foldl dH t) n=match Qq l n with|some r=>some r|none=>Qq t n
 |[],t,h,_=>⟨h,λn=>rfl⟩
 |x :: l,t,h,hd=>by
  obtain⟨c,d⟩:=jN l (dH t x) (lY h) λa f i j=>hd a (PS _ f) i (PS _ j);refine⟨c,λn=>?_⟩;show Qq (l.foldl dH (dH t x)) n=_;rw[d n];by_cases e:x.name=n
  .have b:Qq (x :: l) n=some x:=by simp[Qq,e]
   rw[b];cases k:Qq l n with
   |some r=>
    obtain⟨m,p⟩:=bA k;simp only;rw[hd r (PS _ m) x A9 (p.trans e.symm)]
   |none=>
    simp only;rw[xL h,QI e.symm]
  .have b:Qq (x :: l) n=Qq l n:=by simp[Qq,List.find?,e]
   rw[b];cases Qq l n with
   |some r=>rfl
   |none=>
    simp only;rw[xL h,QJ (Ne.symm e)]
def rZ(r:Q_)(p:List Q_×Bool)(x:Q_):List Q_×Bool:=if p.2=false/\Op.bytesLess x.name.toList r.name.toList=false then (p.1++[r],true) else p
def zH(r:Q_)(p:List Q_×Bool)(x:Q_):List Q_×Bool:=if (x.name.toList == r.name.toList)=true then p else (p.1++[x],p.2)
def ul(r:Q_)(p:List Q_×Bool)(x:Q_):List Q_×Bool:=zH r (rZ r p x) x
def uZ(l:List Q_)(r:Q_)(k:Nat):List Q_×Bool:=(l.take k).foldl (ul r) ([],false)
theorem Jc(l:List Q_)(r:Q_):uZ l r 0= ([],false):=rfl
theorem Bf{k:Nat}(h:k<l.length):uZ l r (k+1)=ul r (uZ l r k) (l.getD k Q_.zero):=by
 unfold uZ;rw[PH h,List.foldl_append];simp[List.getD,h]
theorem Kl(r:Q_)(p:List Q_×Bool)(x:Q_):(ul r p x).1.length+(if (ul r p x).2=true then 0 else 1)<=p.1.length+(if p.2=true then 0 else 1)+1:=by
 unfold ul zH rZ;obtain⟨o,d⟩:=p;cases d<;>cases Op.bytesLess x.name.toList r.name.toList<;>cases (x.name.toList == r.name.toList)<;>simp<;>omega
theorem Dj{l:List Q_}{r:Q_}:∀{k:Nat},k<=l.length->(uZ l r k).1.length+(if (uZ l r k).2=true then 0 else 1)<=k+1
 |0,_=>by rw[Jc];simp
 |k+1,h=>by
  have a:=Dj (l:=l) (r:=r) (k:=k) A7;have b:=Kl r (uZ l r k) (l.getD k Q_.zero);rw[Bf A7];omega
def BU(r:Q_)(p:List Q_×Bool):List Q_:=if p.2=true then p.1 else p.1++[r]
theorem Eu(r:Q_):∀(l acc:List Q_),l.foldl (ul r) (acc,true)= (acc++l.filter λx=>!(x.name.toList == r.name.toList),true)
 |[],acc=>A9
 |x :: l,acc=>by
  rw[List.foldl_cons];have e:ul r (acc,true) x= (acc++(if (x.name.toList == r.name.toList)=true then [] else [x]),true):=by
   unfold ul zH rZ;cases (x.name.toList == r.name.toList)<;>simp
  rw[e,Eu r l];cases h:(x.name.toList == r.name.toList)<;>simp[h]
theorem Dh(r:Q_):∀(l acc:List Q_),d_ l->BU r (l.foldl (ul r) (acc,false))=acc++dH l r
 |[],acc,_=>by simp[BU,dH]
 |x :: l,acc,i=>by
  have j:=i;rw[d_,QR] at j;rw[List.foldl_cons];cases e:Op.bytesLess x.name.toList r.name.toList with
  |true=>
   have n:(x.name.toList == r.name.toList)=false:=by
    rw[beq_eq_false_iff_ne];intro f;exact fM (a:=x.name) (b:=r.name) e (toList_inj.1 f)
   have p:Op.bytesLess r.name.toList x.name.toList=false:=by
    cases k:Op.bytesLess r.name.toList x.name.toList with
    |false=>rfl
    |true=>exact QK k (fC (a:=x.name) (b:=r.name) e)
   have f:ul r (acc,false) x= (acc++[x],false):=by simp[ul,zH,rZ,e,n]
   rw[f,Dh r l _ j.2];simp[dH,e,p]
  |false=>
   have m:∀y∈x :: l,Op.bytesLess y.name.toList r.name.toList=false:=by
    intro y h;rcases Qr.1 h with rfl|h
    .exact e
    .cases k:Op.bytesLess y.name.toList r.name.toList with
     |false=>rfl
     |true=>
      have:=iG (j.1 y h) (show aQ y.name r.name from k);unfold aQ at this;rw[e] at this;cases this
   have q:(x :: l).filter (λy=>Op.bytesLess y.name.toList r.name.toList)=[]:=by
    rw[List.filter_eq_nil_iff];intro y h;rw[m y h];simp
   have s:(x :: l).filter (λy=>Op.bytesLess r.name.toList y.name.toList)= (x :: l).filter (λy=>!(y.name.toList == r.name.toList)):=by
    refine List.filter_congr λy h=>?_
    rcases dA r.name y.name with d|d|d
    .have t:(y.name.toList == r.name.toList)=false:=by
      rw[beq_eq_false_iff_ne];intro f;exact fM d (toList_inj.1 f).symm
     unfold aQ at d;rw[d,t]
     rfl
    .rw[d,dB];simp
    .unfold aQ at d;rw[m y h] at d;cases d
   have f:ul r (acc,false) x= (acc++[r]++(if (x.name.toList == r.name.toList)=true then [] else [x]),true):=by
    unfold ul zH rZ;cases (x.name.toList == r.name.toList)<;>simp[e]
   rw[f,Eu];unfold BU dH;rw[q,s];cases i:(x.name.toList == r.name.toList)<;>simp[i]
theorem MV(h:d_ l):BU r (uZ l r l.length)=dH l r:=by
 unfold uZ;rw[Qc,Dh r l [] h,List.nil_append]
theorem yM(w:QX)(give:QV)(a:QW)(cap:Nat)(l:List QV)(I:give.size<=maxLen)(J:l.length<=maxLen)(A:∀s∈l,s.size<=maxLen)(K:Strs w a l):
  Calls prog 74 #[.string give,.slice a l.length cap] w λe w'=>e=.returned (.string (pJ give l))/\K_ w w':=by
 unfold maxLen at I J A;by_cases Y:(give.size:Int)<=30
 .by_cases Z:(l.length:Int)<=100
  .go_enter func74,ntmps74
   go_wp2
   go_loop [5,6] (λx i=>∃(k:Nat)(b:QV),k<=l.length/\i=.b k/\x=.string b/\b.data.toList=give.data.toList++40 :: Lib.join ((texts l).take k) [44]/\(∀j,j<k->(l.getD j ByteArray.empty).size<=200)/\b.size<=31+k*201) λ_ i=>l.length-(intOf i).toNat
   case atStart=>exact⟨0,_,Py _,rfl,rfl,by rw[gG];simp[Lib.join_nil],λj p=>aS p,by have e:(⟨#[40]⟩:QV).size=1:=rfl;rw[ByteArray.size_append,e];omega⟩
   case round=>
    obtain⟨k,b,hk,rfl,rfl,q,p,B⟩:=hrel;have⟨f,y⟩:=aJ q p;clear q p;by_cases h:k<l.length
    .obtain⟨g,o,rfl,a0,hc⟩:=K k h;have a1:=A (l.getD k ByteArray.empty) (by simp[List.getD,h]);generalize C:l.getD k ByteArray.empty=L at *;have r:=Kz C;clear C;by_cases h3:(L.size:Int)<=200
     .by_cases h4:(0:Int)<k
      .go_wp2
       go_round
       case rel=>
        have t:=qh (texts l) k (by rw[kW];exact h);rw[zm l k h,r.o,QI A7] at t;refine⟨k+1,_,A7,C8,rfl,?_,λj p=>?_,?_⟩
        .rw[t];simp only[gG,f.o];simp
        .by_cases e:j=k
         .subst e;rw[r.o];omega
         .exact y.o j A7
        .simp only[ByteArray.size_append];have:(⟨#[44]⟩:QV).size=1:=rfl;omega
       case measure=>simp[intOf];omega
      .go_wp2
       go_round
       case rel=>
        have t:=qh (texts l) k (by rw[kW];exact h);rw[zm l k h,r.o,QJ A7] at t;refine⟨k+1,_,A7,C8,rfl,?_,λj p=>?_,?_⟩
        .rw[t];simp only[gG,f.o];simp
        .by_cases e:j=k
         .subst e;rw[r.o];omega
         .exact y.o j A7
        .simp only[ByteArray.size_append];have:(⟨#[44]⟩:QV).size=1:=rfl;omega
       case measure=>simp[intOf];omega
     .go_wp2
      go_ret
      exact⟨mE (lm (.inr (.inr ⟨k,h,by rw[r.o];omega⟩))).symm,K_.refl _⟩
    .have M:k=l.length:=A7;have D:Hid ((b++ ⟨#[41]⟩).data.toList=kV give.data.toList (texts l)):=by
      show _=_;rw[gG,f.o,M,<-kW,Qc];simp[kV]
     have E:Hid (qR give l):=⟨A7,A7,λi hi=>y.o i A7⟩;have N:(b++ ⟨#[41]⟩:QV).size=b.size+1:=by rw[ByteArray.size_append];rfl
     by_cases O:(b.size:Int)+1<=200
     .go_wp2
      go_ret
      exact⟨mE (zi E.o D.o A7).symm,K_.refl _⟩
     .go_wp2
      have a2:(b++ ⟨#[41]⟩:QV).size<=100000:=A7;have P:200<(b++ ⟨#[41]⟩:QV).size:=A7;clear N O B f;generalize (b++ ⟨#[41]⟩:QV)=c at *;go_loop [7,8] (λv i=>∃k:Nat,k<=c.size/\i=.b k/\v=.int .u64 ((c.data.toList.take k).foldl eB 14695981039346656037)) λ_ i=>c.size-(intOf i).toNat
      case atStart=>exact⟨0,Py _,rfl,rfl⟩
      case round=>
       obtain⟨m,hm,rfl,rfl⟩:=hrel;by_cases Q:m<c.size
       .have F:m<c.data.toList.length:=by simpa using Q
        have R:Hid ((c.data.toList.take (m+1)).foldl eB 14695981039346656037=eB ((c.data.toList.take m).foldl eB 14695981039346656037) c[m]):=by
         have e:=tO c.data.toList m F;rw[List.getD_eq_getElem?_getD,PE F,QL] at e;exact e
        generalize (c.data.toList.take m).foldl eB 14695981039346656037=v at *;go_wp2
        go_round
        case rel=>exact⟨m+1,A7,C8,by rw[R.o];rw[Bo];rfl⟩
        case measure=>simp[intOf];omega
       .have S:m=c.data.toList.length:=D7;subst S;rw[Qc];have T:=sN c.data.toList;have z:Hid (pJ give l= ⟨(35 :: kJ 16 (sumOf c.data.toList).toNat).toArray⟩):=Bw E.o D.o P;unfold sumOf at T z;generalize List.foldl eB 14695981039346656037 c.data.toList=V at *;obtain⟨v,rfl⟩:∃v:Nat,V=v:=⟨V.toNat,A7⟩;rw[Int.toNat_natCast] at z;go_wp2
        go_loop [7,9,10] (λx d i=>∃(k:Nat)(b:QV),k<=16/\i=.b k/\x=.int .u64 ((v / 16 ^ k:Nat):Int)/\d=.string b/\b.data.toList=kJ k v) λ_ _ i=>16-(intOf i).toNat
        case atStart=>exact⟨0,ByteArray.empty,Py _,rfl,A9,rfl,rfl⟩
        case round=>
         obtain⟨n,b,hn,rfl,rfl,rfl,q⟩:=hrel;have f:=Kz q;clear q;have B:b.size<=16:=by have:=congrArg List.length f.o;rw[jc] at this;simp at this;omega
         by_cases a3:(n:Int)<16
         .have U:(v / 16 ^ n) % 16<16:=Nat.mod_lt _ A7;have G:v / 16 ^ n / 16=v / 16 ^ (n+1):=by rw[Nat.div_div_eq_div_mul,Nat.pow_succ]
          have W:=Kz G;clear G;have a4:v / 16 ^ n<18446744073709551616:=Nat.lt_of_le_of_lt (Nat.div_le_self _ _) A7;generalize H:v / 16 ^ n=u at *;have X:=Kz H;clear H;go_wp2
          go_round
          case rel=>
           refine⟨n+1,_,A7,C8,by rw[<-W.o];simp,rfl,?_⟩;rw[gG,MX _ U,f.o,kJ,X.o]
           rfl
          case measure=>simp[intOf];omega
         .go_wp2
          go_ret
          obtain rfl:n=16:=A7;exact⟨mE (by rw[z.o];apply BF;rw[gG,f.o];rfl),K_.refl _⟩
  .go_enter func74,ntmps74
   go_wp2
   go_ret
   exact⟨by rw[lm A7];rfl,K_.refl _⟩
 .go_enter func74,ntmps74
  go_wp2
  go_ret
  exact⟨by rw[lm A7];rfl,K_.refl _⟩
structure fE where
 name:QV
 over:Bool
 fail:Bool
 text:QV
def fE.zero :fE:=⟨⟨#[]⟩,false,false,⟨#[]⟩⟩
def fE.cells(r:fE):List QY:=[.string r.name,.bool r.over,.bool r.fail,.string r.text]
def si(w:QX)(a:QW)(l:List fE):Prop:=
 ∀i,i<l.length->∃b o,a=some ⟨b,o,none⟩/\b<w.heap.size/\w.rangeAt b (o+i*4) (l.getD i fE.zero).cells
variable {l:List fE}{a:QW}
theorem si.kept{w w':QX}(h:si w a l)(k:K_ w w'):si w' a l:=by
 intro i c;obtain⟨d,o,e,b,f⟩:=h i c;exact⟨d,o,e,Px b k.size,k.range b f⟩
def iQ(w:QX)(lo hi:Nat)(a:QW)(l:List fE):Prop:=
 l=[]\/∃b,a=some ⟨b,0,none⟩/\lo<=b/\b<hi/\Row w b (l.length*4)/\∀i,i<l.length->w.rangeAt b (i*4) (l.getD i fE.zero).cells
theorem iQ.same{w w':QX}{c b:Nat}(h:iQ w c b a l)(k:Same c b w w'):iQ w' c b a l:=by
 rcases h with h|⟨i,j,d,e,f,m⟩
 .exact .inl h
 .exact .inr ⟨i,j,d,e,k.row d e f,λn b=>k.range d e f.lt (m n b)⟩
theorem iQ.mono{w:QX}{c d e f:Nat}(h:iQ w c d a l)(m:e<=c)(h2:d<=f):iQ w e f a l:=by
 rcases h with h|⟨b,i,n,p,j,k⟩
 .exact .inl h
 .exact .inr ⟨b,i,A7,A7,j,k⟩
theorem iQ.ress{w:QX}{c b:Nat}(h:iQ w c b a l):si w a l:=by
 rcases h with rfl|⟨d,e,k,m,f,j⟩
 .intro i b;simp at b
 .intro i b;exact⟨d,0,e,f.lt,by rw[Qb];exact j i b⟩
section
variable (E:QV -> QV -> Prop)
inductive RW (g:QV):Nat->QV->Prop
 |one {a:QV} (h:E a g):RW g 1 a
 |step {n:Nat} {a b:QV} (h:E a b) (hb:aQ g b) (r:RW g n b):RW g (n+1) a
def eT(g:QV)(n:Nat)(a:QV):Prop:=RW E g n a/\∀m,m<n->¬RW E g m a
def m_(p:QV->Prop)(x:QV):Prop:=p x/\∀y,p y->¬aQ y x
inductive mH (g:QV):Nat->QV->List QV->Prop
 |stop (a:QV):mH g 1 a [a]
 |step {n:Nat} {a x:QV} {l:List QV} (h:m_ (λy=>E a y/\aQ g y/\eT E g n y) x) (r:mH g n x l):mH g (n+1) a (a :: l)
inductive AQ (g:QV):Nat->QV->List QV->Prop
 |stop (a:QV):AQ g 1 a [a]
 |step {n:Nat} {a x:QV} {l:List QV} (h:m_ (λy=>E a y/\Far E g n y) x) (r:AQ g n x l):AQ g (n+1) a (a :: l)
def A_(l:List QV):Prop:=
 ((∀x n,1<=n->¬bn E n x x)/\l=[])\/∃m t,1<=m/\(∀x n,1<=n->bn E n x x->m<=n)/\m_ (λx=>bn E m x x) t/\AQ E t m t l
end
variable {a g:QV}{n:Nat}
section
variable {E:QV -> QV -> Prop}
theorem m_.iff{p q:QV->Prop}(a:∀x,p x↔q x){x:QV}(h:m_ p x):m_ q x:=⟨(a x).1 h.1,λy d=>h.2 y ((a y).2 d)⟩
theorem RW.pos(h:RW E g n a):1<=n:=by cases h<;>omega
theorem RW.walk(h:RW E g n a):bn E n a g:=by
 induction h with
 |one h=>exact bn.one h
 |step h _ _ ih=>exact .step h ih
theorem RW.far :∀{n:Nat}{a:QV},RW E g n a->∃m,m<=n/\eT E g m a:=by
 intro n
 induction n using Nat.strongRecOn with
 |ind n ih=>
  intro a h;by_cases d:∃m,m<n/\RW E g m a
  .obtain⟨m,b,c⟩:=d;obtain⟨q,f,e⟩:=ih m b c;exact⟨q,A7,e⟩
  .exact⟨n,Pw _,h,λm b c=>d ⟨m,b,c⟩⟩
theorem eT.unique{m:Nat}(h:eT E g n a)(k:eT E g m a):n=m:=by
 rcases QH n m with e|e|e
 .exact QK h.1 (k.2 n e)
 .exact e
 .exact QK k.1 (h.2 m e)
theorem eT.one :eT E g 1 a↔E a g:=by
 constructor
 .intro h;generalize e:(1:Nat)=n at h;have c:=h.1;cases c with
  |one h=>exact h
  |step _ _ r=>have:=r.pos;omega
 .intro h;exact⟨.one h,λm i d=>by have:=d.pos;omega⟩
theorem eT.succ(t:1<=n):eT E g (n+1) a↔(∃b,E a b/\aQ g b/\eT E g n b)/\∀m,m<=n->¬eT E g m a:=by
 constructor
 .intro h;refine⟨?_,λm i j=>h.2 m A7 j.1⟩;have c:=h.1;generalize v:n+1=w at c;cases c with
  |one h=>omega
  |@step q _ b c hb r=>
   have k:q=n:=A7;subst k;obtain⟨m,f,d⟩:=r.far;rcases Nat.lt_or_ge m q with e|e
   .exact QK (RW.step c hb d.1) (h.2 (m+1) A7)
   .have:m=q:=A7;subst this;exact⟨b,c,hb,d⟩
 .rintro⟨⟨b,c,f,d⟩,l⟩;refine⟨.step c f d.1,λm i p=>?_⟩;obtain⟨q,x,s⟩:=p.far;exact l q A7 s
theorem eT.levels :∀{n:Nat}{a:QV},eT E g n a->∃l:List QV,l.length=n/\(∀x∈l,∃y,E x y)/\(∀i (c:i<l.length),eT E g (i+1) l[i]):=by
 intro n
 induction n with
 |zero=>intro a h;have:=h.1.pos;omega
 |succ n ih=>
  intro a h;have e:∃y,E a y:=by
   have f:=h.1;cases f with
   |one h=>exact⟨_,h⟩
   |step h _ _=>exact⟨_,h⟩
  by_cases m:n=0
  .subst m;exact⟨[a],rfl,λx d=>by rw[PI] at d;rw[d];exact e,λi c=>by
    simp at c;subst c;exact h⟩
  .obtain⟨⟨b,f,_,p⟩,_⟩:=(eT.succ A7).1 h;obtain⟨l,j,q,r⟩:=ih p;refine⟨l++[a],by simp[j],λx d=>?_,λi c=>?_⟩
   .rcases PK.1 d with g|g
    .exact q x g
    .rw[PI] at g;rw[g];exact e
   .by_cases k:i<l.length
    .rw[List.getElem_append_left k];exact r i k
    .have:i=l.length:=by simp at c;omega
     subst this;simp only[List.getElem_append_right (Pw _),Nat.sub_self,List.getElem_cons_zero];rw[j];exact h
theorem eT.bound(h:eT E g n a){names:List QV}(d:∀x y,E x y->x∈names):n<=names.length:=by
 obtain⟨r,f,i,b⟩:=h.levels;rw[<-f];refine List.Nodup.length_le_of_subset ?_ (λx j=>by obtain⟨y,k⟩:=i x j;exact d x y k);rw[List.Nodup,PM];intro l m p q s e;have c:=b l p;rw[e] at c;have:=c.unique (b m q);omega
theorem yn{m:Nat}{t:QV}(f:∀x n,1<=n->bn E n x x->m<=n)(h:∀x,bn E m x x->¬aQ x t):∀{q j:Nat}{a:QV},j+q=m->bn E j t a->bn E q a t->1<=q->RW E t q a:=by
 intro q
 induction q with
 |zero=>intro j a _ _ _ r;omega
 |succ q ih=>
  intro j a s i k _;obtain⟨y,b,c⟩:=k.first
  by_cases l:q=0
  .subst l;have:=c.zero;subst this;exact .one b
  .have d:bn E (j+1) t y:=i.trans (bn.one b);have p:bn E m y y:=by
    have:=c.trans d;rw[show q+(j+1)=m by omega] at this;exact this
   refine .step b ?_ (ih A7 d c A7);rcases dA t y with e|e|e
   .exact e
   .subst e;have:=f t (j+1) A7 d;omega
   .exact QK e (h y p)
theorem KC{m:Nat}{t:QV}(d:∀x n,1<=n->bn E n x x->m<=n)(i:∀x,bn E m x x->¬aQ x t){j q:Nat}(z:j+(q+1)=m)(k:bn E j t a)(p:1<=q)(y:QV):(E a y/\aQ t y/\eT E t q y)↔(E a y/\Far E t q y):=by
 constructor
 .rintro⟨b,c,r⟩;refine⟨b,r.1.walk,λn l f=>?_⟩;have s:=f.trans (k.trans (bn.one b));have:=d y (n+(j+1)) A7 s;omega
 .rintro⟨b,c⟩;have h:bn E (j+1) t y:=k.trans (bn.one b);have v:bn E m y y:=by
   have:=c.1.trans h;rw[show q+(j+1)=m by omega] at this;exact this
  have w:=yn d i A7 h c.1 p;refine⟨b,?_,w,λn l f=>c.2 n l f.walk⟩;rcases dA t y with e|e|e
  .exact e
  .subst e;have:=d t (j+1) A7 h;omega
  .exact QK e (i y v)
theorem JM{m:Nat}{t:QV}(d:∀x n,1<=n->bn E n x x->m<=n)(e:∀x,bn E m x x->¬aQ x t){q:Nat}{l:List QV}(h:mH E t q a l):∀{j:Nat},j+q=m->bn E j t a->AQ E t q a l:=by
 induction h with
 |stop a=>intro j _ _;exact .stop a
 |@step n a x l h r ih=>
  intro j f b;have i:1<=n:=by cases r<;>omega
  have c:=h.iff (KC d e f b i);exact .step c (ih (j:=j+1) A7 (b.trans (bn.one c.1.1)))
structure jY (E:QV->QV->Prop)(gs:List QV)(best:List QV):Prop where
 no:best=[]->∀g∈gs,∀n,¬eT E g n g
 yes:best≠[]->∃g n,g∈gs/\eT E g n g/\mH E g n g best/\best.length=n/\(∀h∈gs,∀k,eT E h k h->n<=k/\(aQ h g->n<k))
theorem jY.OI{B C:List QV}(H:jY E B C)(S:∀x y,E x y->x∈B):A_ E C:=by
 by_cases I:∀x n,1<=n->¬bn E n x x
 .refine .inl ⟨I,?_⟩;by_cases l:C=[]
  .exact l
  .obtain⟨g,n,_,p,_⟩:=H.yes l;exact QK p.1.walk (I g n p.1.pos)
 .obtain⟨m,N,T,w⟩:∃m,1<=m/\(∃x,bn E m x x)/\∀x n,1<=n->bn E n x x->m<=n:=by
   have U:∃n,∃x,1<=n/\bn E n x x:=by
    by_cases D:∃n,∃x,1<=n/\bn E n x x
    .exact D
    .exact QK (λx n h c=>D ⟨n,x,h,c⟩) I
   have:∀n,(∃x,1<=n/\bn E n x x)->∃m,1<=m/\(∃x,bn E m x x)/\∀x n,1<=n->bn E n x x->m<=n:=by
    intro n
    induction n using Nat.strongRecOn with
    |ind n ih=>
     rintro⟨x,h,c⟩;by_cases O:∃k,k<n/\∃x,1<=k/\bn E k x x
     .obtain⟨k,d,J⟩:=O;exact ih k d J
     .exact⟨n,h,⟨x,c⟩,λy k d J=>by
       rcases Nat.lt_or_ge k n with e|e
       .exact QK ⟨k,e,y,d,J⟩ O
       .exact e⟩
   obtain⟨n,F⟩:=U;exact this n F
  have A:∀x,bn E m x x->x∈B:=λx G=>by
   obtain⟨P,rfl⟩:∃P,m=P+1:=⟨m-1,A7⟩;obtain⟨b,l,_⟩:=G.first
   exact S x b l
  obtain⟨t,f⟩:∃t,m_ (λx=>bn E m x x) t:=by
   obtain⟨x,G⟩:=T;have V:∀(i:List QV)(q:QV->Prop),(∃y∈i,q y)->∃t∈i,q t/\∀y∈i,q y->¬aQ y t:=by
    intro i q
    induction i with
    |nil=>rintro⟨y,r,_⟩;cases r
    |cons z i ih=>
     rintro⟨y,r,Q⟩;by_cases s:∃y∈i,q y
     .obtain⟨t,h,c,d⟩:=ih s;by_cases K:q z/\aQ z t
      .refine⟨z,A9,K.1,λu a v=>?_⟩;rcases Qr.1 a with rfl|a
       .exact aZ u
       .exact λL=>d u a v (iG L K.2)
      .refine⟨t,PS _ h,c,λu a v=>?_⟩;rcases Qr.1 a with rfl|a
       .exact λL=>K ⟨v,L⟩
       .exact d u a v
     .have:y=z:=by
       rcases Qr.1 r with e|e
       .exact e
       .exact QK ⟨y,e,Q⟩ s
      subst this;refine⟨y,A9,Q,λu a v=>?_⟩;rcases Qr.1 a with rfl|a
      .exact aZ u
      .exact QK ⟨u,a,v⟩ s
   obtain⟨t,h,c,d⟩:=V B (λx=>bn E m x x) ⟨x,A x G,G⟩;exact⟨t,c,λy r=>d y (A y r) r⟩
  have M:eT E t m t:=⟨yn w f.2 (j:=0) A7 (.here t) f.1 N,λn F R=>by
   have:=w t n R.pos R.walk;omega⟩
  have l:C≠[]:=λe=>H.no e t (A t f.1) m M
  obtain⟨g,n,X,p,D,_,s⟩:=H.yes l;have F:n=m:=by
   have h:=(s t (A t f.1) m M).1;have c:=w g n p.1.pos p.1.walk;omega
  subst F;have W:g=t:=by
   rcases dA g t with e|e|e
   .exact QK e (f.2 g p.1.walk)
   .exact e
   .have:=(s t (A t f.1) n M).2 e;omega
  subst W;exact .inr ⟨n,g,N,w,f,JM w f.2 D (j:=0) A7 (.here g)⟩
end
variable {a:Act}{up:Array Bool}{n:Nat}{oi:Oper}{v:QY}{w:QX}
section
variable {P:Program}{ops:Array Oper}{Q:Exit -> Act -> QX -> Prop}{md:Region.Mode}{S:QX -> Prop}{Z:List Nat}
def UpZ(P:Program)(md:Region.Mode)(ops:Array Oper)(Q:Exit->Act->QX->Prop)(S:QX->Prop)(Z:List Nat):Nat->Array Bool->Act->QX->Prop
 |0,up,a,w=>Region.ready md ops up=[]/\Q .normal a w
 |n+1,up,a,w=>(Region.ready md ops up=[]->Q .normal a w)/\∀k∈Region.ready md ops up,wpOp P ops Q k (λb u=>(k∉Z->S w->S u)/\UpZ P md ops Q S Z n (up.setIfInBounds k true) b u) a w
theorem UpZ.any :∀(n:Nat)(up:Array Bool)(a:Act)(w:QX),UpZ P md ops Q S Z n up a w->wpAny P md ops Q n up a w
 |0,_,_,_,h=>h
 |n+1,_,_,_,h=>⟨h.1,λk c=>wpOp_mono (λb u g=>UpZ.any n _ b u g.2) (h.2 k c)⟩
theorem UpZ.region{id:Nat}(b:P.follows .mixedOrders=true)(S:QX->Prop)(Z:List Nat)(c:S w.drew)(h:S w.drew->UpZ P .any ops Q S Z ops.size (Array.replicate ops.size false) a w.drew):(Code.region id ops true).wp P Q a w:=
 wp_region_any b (UpZ.any _ _ _ _ (h c))
theorem UpZ.take'{i:Nat}(s:ops[i]? =some oi)(B:Region.noSelect ops=true)(L:∀c a w,Q (.panic c) (a.put oi.dst v) w->Q (.panic c) a w){D:List Nat}(M:∀z∈Z,z∈D)(N:nS md ops i D=true):
  ∀(n:Nat)(up:Array Bool)(a:Act)(w:QX),(∀j f,ops[j]? =some f->j≠i->up.getD j true=false->(∀e∈f.after,Region.binds md e=true->e.on≠i)->oi.apart ops f=true)->
   (∀d∈D,up.getD d true=false)->i∈Region.ready md ops up->YieldsIf P ops S oi v a->S w->
   UpZ P md ops Q S Z n (up.setIfInBounds i true) (a.put oi.dst v) w->UpZ P md ops Q S Z (n+1) up a w:=by
 intro n
 induction n with
 |zero=>
  intro up a w _ _ l q r H;refine⟨λh=>(by rw[h] at l;cases l),λj m=>?_⟩;by_cases e:j=i
  .exact e ▸ q.wpOp s r ⟨λ_ h=>h,H⟩
  .have:=ready_mono m e;rw[H.1] at this;cases this
 |succ n ih=>
  intro up a w C E l q r H;refine⟨λh=>(by rw[h] at l;cases l),λj m=>?_⟩;by_cases e:j=i
  .exact e ▸ q.wpOp s r ⟨λ_ h=>h,H⟩
  .have t:=(mem_ready.1 l).1;have F:=EP N t E m;have O:j∉Z:=λh=>F (M j h)
   obtain⟨G,f,x,R⟩:=mem_ready.1 m;have T:∀e∈f.after,Region.binds md e=true->e.on≠i:=λe U V W=>by
    have p:=R e U V;rw[W] at p;rcases Nat.lt_or_ge i up.size with y|y
    .simp[y] at t p;rw[t] at p;cases p
    .simp[Array.getElem?_eq_none y] at p
   have X:=wpOp_putIf x (C j f x e G T) (λA b=>Region.noSelect_spec B i oi A b s) (λA b=>Region.noSelect_spec B j f A b x) L q (H.2 j (ready_mono m e));refine wpOp_mono (λb u g=>⟨g.2.1,ih (up.setIfInBounds j true) b u (λk ok Y a0 I a1=>C k ok Y a0 ?_ a1) (λd J=>?_) (ready_mono l (Ne.symm e)) g.1 (g.2.1 O r) ?_⟩) X
   .by_cases K:j=k
    .exact K ▸ G
    .rw[getD_set_ne true K] at I;exact I
   .rw[getD_set_ne true λh:j=d=>F (h ▸ J)];exact E d J
   .rw[Array.setIfInBounds_comm _ _ e];exact g.2.2
theorem UpZ.take(i:Nat)(D:List Nat)(f:ops[i]? =some oi)(h:Region.noSelect ops=true)(j:Region.free md ops up i=true)(k:(Region.ready md ops up).contains i=true)(b:(Z.all (λz=>D.contains z) && nS md ops i D && D.all λd=>!up.getD d true)=true)(l:∀c a w,Q (.panic c) (a.put oi.dst v) w->Q (.panic c) a w)(hy:YieldsIf P ops S oi v a)(m:S w)(p:UpZ P md ops Q S Z n (up.setIfInBounds i true) (a.put oi.dst v) w):UpZ P md ops Q S Z (n+1) up a w:=by
 simp only[Bool.and_eq_true,List.contains_iff_mem,List.all_eq_true,Bool.not_eq_true'] at b;exact UpZ.take' f h l b.1.1 b.1.2 n up a w (Region.free_spec f j) b.2 (by simpa using k) hy m p
theorem UpZ.Pt{i:Nat}(p:ops[i]? =some oi)(t:Region.noSelect ops=true)(D:∀c a w,Q (.panic c) (a.put oi.dst v) w->Q (.panic c) a w):
  ∀(n:Nat)(up:Array Bool)(a:Act)(w:QX),(∀j b,ops[j]? =some b->j≠i->up.getD j true=false->(∀e∈b.after,Region.binds md e=true->e.on≠i)->oi.apart ops b=true)->
   i∈Region.ready md ops up->YieldsIf P ops (λ_=>True) oi v a->
   UpZ P md ops Q S Z n (up.setIfInBounds i true) (a.put oi.dst v) w->UpZ P md ops Q S Z (n+1) up a w:=by
 intro n
 induction n with
 |zero=>
  intro up a w _ d l H;refine⟨λh=>(by rw[h] at d;cases d),λj m=>?_⟩;by_cases e:j=i
  .exact e ▸ l.wpOp p trivial ⟨λ_ h=>h,H⟩
  .have:=ready_mono m e;rw[H.1] at this;cases this
 |succ n ih=>
  intro up a w x d l H;refine⟨λh=>(by rw[h] at d;cases d),λj m=>?_⟩;by_cases e:j=i
  .exact e ▸ l.wpOp p trivial ⟨λ_ h=>h,H⟩
  .have y:=(mem_ready.1 d).1;obtain⟨z,b,q,E⟩:=mem_ready.1 m;have F:∀e∈b.after,Region.binds md e=true->e.on≠i:=λe G I J=>by
    have f:=E e G I;rw[J] at f;rcases Nat.lt_or_ge i up.size with r|r
    .simp[r] at y f;rw[y] at f;cases f
    .simp[Array.getElem?_eq_none r] at f
   have K:=wpOp_putIf q (x j b q e z F) (λs k=>Region.noSelect_spec t i oi s k p) (λs k=>Region.noSelect_spec t j b s k q) D l (H.2 j (ready_mono m e));refine wpOp_mono (λk u g=>⟨g.2.1,ih (up.setIfInBounds j true) k u (λA ok L M B N=>x A ok L M ?_ N) (ready_mono d (Ne.symm e)) g.1 ?_⟩) K
   .by_cases C:j=A
    .exact C ▸ z
    .rw[getD_set_ne true C] at B;exact B
   .rw[Array.setIfInBounds_comm _ _ e];exact g.2.2
theorem UpZ.pure(i:Nat)(b:ops[i]? =some oi)(d:Region.noSelect ops=true)(e:Region.free md ops up i=true)(f:(Region.ready md ops up).contains i=true)(h:∀c a w,Q (.panic c) (a.put oi.dst v) w->Q (.panic c) a w)(hy:YieldsIf P ops (λ_=>True) oi v a)(j:UpZ P md ops Q S Z n (up.setIfInBounds i true) (a.put oi.dst v) w):UpZ P md ops Q S Z (n+1) up a w:=
 UpZ.Pt b d h n up a w (Region.free_spec b e) (by simpa using f) hy j
theorem UpZ.next(i:Nat){o:Oper}(d:Region.ready md ops up=[i])(h:ops[i]? =some o)(j:∀K:Act->QX->Prop,Shut (∀b u,(i∉Z->S w->S u)->UpZ P md ops Q S Z n (up.setIfInBounds i true) b u->K b u)->if Region.wanted o (yielded ops a.tmps)=true then Oper.wp P o a w K Q else K (a.put o.dst undef) w):
  UpZ P md ops Q S Z (n+1) up a w:=by
 refine⟨λe=>(by rw[d] at e;cases e),λk f=>?_⟩;rw[d] at f;obtain rfl:k=i:=by simpa using f
 exact wpOp_step h λK l=>j K λb u m p=>l b u ⟨m,p⟩
theorem UpZ.done(b:Region.ready md ops up=[])(h:Q .normal a w):UpZ P md ops Q S Z n up a w:=by
 cases n with
 |zero=>exact⟨b,h⟩
 |succ n=>exact⟨λ_=>h,by rw[b];simp⟩
theorem UpZ.tk(i:Nat){b:Act}(e:S w)(h:UpZ P md ops Q S Z n (up.setIfInBounds i true) b w)(f:ops[i]? =some oi:=by (simp only[List.getElem?_toArray];rfl))(hy:∀u,S u->(execOp a.eval oi).run P u=.ok (.value v) u:=by (intro u hu;(try dsimp only at hu);go_simp;(try with_reducible rfl)))(j:a.put oi.dst v=b:=by (first|(simp only[upP];exact rfl)|simp only[upP]|exact rfl))(k:Region.noSelect ops=true:=by kernel_rfl)(l:Region.free md ops up i=true:=by kernel_rfl)(m:(Region.ready md ops up).contains i=true:=by kernel_rfl)(p:(Z.all (λz=>(Zz md ops i).contains z) && nS md ops i (Zz md ops i) && (Zz md ops i).all λd=>!up.getD d true)=true:=by kernel_rfl)(q:∀c a w,Q (.panic c) (a.put oi.dst v) w->Q (.panic c) a w:=by (first|exact λ_ _ _ h=>h|exact λ_ _ _ h=>nomatch h.1))(r:Region.wanted oi (yielded ops a.tmps)=true:=by rfl):UpZ P md ops Q S Z (n+1) up a w:=
 UpZ.take i _ f k l m p q (Or.inl ⟨r,hy⟩) e (by rw[j];exact h)
theorem UpZ.pu(i:Nat){b:Act}(h:UpZ P md ops Q S Z n (up.setIfInBounds i true) b w)(d:ops[i]? =some oi:=by (simp only[QT];rfl))(hy:∀u,True->(execOp a.eval oi).run P u=.ok (.value v) u:=by (intro u hu;go_simp;(try with_reducible rfl)))(e:a.put oi.dst v=b:=by (first|(simp only[upP];exact rfl)|simp only[upP]|exact rfl))(f:Region.noSelect ops=true:=by kernel_rfl)(j:Region.free md ops up i=true:=by kernel_rfl)(k:(Region.ready md ops up).contains i=true:=by kernel_rfl)(l:∀c a w,Q (.panic c) (a.put oi.dst v) w->Q (.panic c) a w:=by (first|exact λ_ _ _ h=>h|exact λ_ _ _ h=>nomatch h.1))(m:Region.wanted oi (yielded ops a.tmps)=true:=by rfl):UpZ P md ops Q S Z (n+1) up a w:=
 UpZ.pure i d f j k l (Or.inl ⟨m,hy⟩) (by rw[e];exact h)
theorem UpZ.nx(i:Nat){o:Oper}(h:∀K:Act->QX->Prop,Shut (∀b u,(i∉Z->S w->S u)->UpZ P md ops Q S Z n (up.setIfInBounds i true) b u->K b u)->if Region.wanted o (yielded ops a.tmps)=true then Oper.wp P o a w K Q else K (a.put o.dst undef) w)(d:Region.ready md ops up=[i]:=by kernel_rfl)(e:ops[i]? =some o:=by (simp only[QT];rfl)):UpZ P md ops Q S Z (n+1) up a w:=UpZ.next i d e h
theorem UpZ.dn(h:Q .normal a w)(c:Region.ready md ops up=[]:=by kernel_rfl):UpZ P md ops Q S Z n up a w:=UpZ.done c h
end
def o_(w:QX):Prop:=3<w.heap.size/\w.cell? ⟨3,15,none⟩=some (.int .u8 4)
theorem o_.kept{w w':QX}(h:o_ w)(k:K_ w w'):o_ w':=⟨Px h.1 k.size,by rw[k.cell h.1];exact h.2⟩
theorem Ns(w:QX)(h:o_ w):Calls prog 220 #[.int .u64 16] w λe w'=>e=.returned (.b 4)/\w'=w:=by
 have b:IntKind.u64.wrap (bits BinOp.and IntKind.u64 16 (IntKind.u64.wrap (-16))*285870213051353865) / 288230376151711744=15:=by decide+kernel
 have c:=h.2;go_enter func220,ntmps220
 go_wp2_with (simp only[b])
 go_ret
 exact⟨rfl,rfl⟩
theorem OT(w:QX)(h:o_ w):Calls prog 218 #[.int .u64 16] w λe w'=>e=.returned (.b 4)/\w'=w:=by
 go_enter func218,ntmps218
 go_wp2_with fail
 refine (Ns _ h).mono ?_;rintro e w1 ⟨rfl,rfl⟩;go_wp2
 go_ret
 exact⟨rfl,rfl⟩
