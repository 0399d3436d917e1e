import Derived.Test.YtbmhchdegdjfkaaGreatDoorKVBfs
import Derived.Deep.RegionHeld
import Derived.Test.YtbmhchdegdjfkaaGreatDoorProg
import Derived.WalkSpells
import Derived.WalkLawsBesides
import Derived.BigQuiet
set_option maxRecDepth 100000
set_option maxHeartbeats 25600000
namespace Go.Proofs.YtbmhchdegdjfkaaGreatDoor
open Go.Proofs.Tryz
variable {a : Act} {up : Array Bool} {n : Nat} {oi : Oper} {w : KH}
section
variable {P : Program} {ops : Array Oper} {Q : Exit -> Act -> KH -> Prop} {md : Region.Mode} {S : KH -> Prop} {z : Nat}
def Qk(P:Program)(md:Region.Mode)(ops:Array Oper)(Q:Exit->Act->KH->Prop)(S:KH->Prop)(z:Nat):Nat->Array Bool->Act->KH->Prop
 | 0,up,a,w=>Region.ready md ops up=[]/\Q .normal a w
 | n+1,up,a,w=>(Region.ready md ops up=[]->Q .normal a w)/\∀k∈Region.ready md ops up,wpOp P ops Q k (fun b u=>(k≠z->S u)/\Qk P md ops Q S z n (up.setIfInBounds k true) b u) a w
theorem Qk.any :∀(n:Nat) (up:Array Bool) (a:Act) (w:KH),Qk P md ops Q S z n up a w->wpAny P md ops Q n up a w
 | 0,_,_,_,h=>h
 | n+1,_,_,_,h=>⟨h.1,fun k c=>wpOp_mono (fun b u g=>Qk.any n _ b u g.2) (h.2 k c)⟩
theorem Qk.region{id:Nat}(b:P.follows .mixedOrders=true)(S:KH->Prop)(z:Nat)(c:S w.drew)
 (h:S w.drew->Qk P .any ops Q S z ops.size (Array.replicate ops.size false) a w.drew):(Code.region id ops true).wp P Q a w:=
 wp_region_any b (Qk.any _ _ _ _ (h c))
def pX(md:Region.Mode)(ops:Array Oper)(i:Nat)(D:List Nat):Bool:=
 D.all fun d=>match ops[d]? with
  | some o=>o.after.toList.any fun e=>Region.binds md e && (e.on == i || D.contains e.on)
  | none=>false
theorem Fx{i:Nat}{D:List Nat}(j:pX md ops i D=true)(l:up.getD i true=false)(m:∀d∈D,up.getD d true=false){k:Nat}
 (n:k∈Region.ready md ops up):k∉D:=by
 intro p;obtain⟨_,o,q,r⟩:=mem_ready.1 n;have c:=List.all_eq_true.1 j k p;simp only[q,List.any_eq_true,Array.mem_toList_iff,Bool.and_eq_true,Bool.or_eq_true,beq_iff_eq,List.contains_iff_mem] at c;obtain⟨e,s,t,v⟩:=c;have a:=r e s t;have f:up.getD e.on true=false:=by
  rcases v with h|h
  ·rw[h];exact l
  ·exact m _ h
 rcases Nat.lt_or_ge e.on up.size with b|b
 ·simp[b] at a f;rw[f] at a;cases a
 ·simp[Array.getElem?_eq_none b] at a
theorem Qk.take'{i:Nat}{v:KI}(s:ops[i]? =some oi)(B:Region.noSelect ops=true)(M:∀c a w,Q (.panic c) (a.put oi.dst v) w->Q (.panic c) a w)
 {D:List Nat} (N:z∈D) (O:pX md ops i D=true):
  ∀(n:Nat) (f:Array Bool) (a:Act) (w:KH),(∀j h,ops[j]? =some h->j≠i->f.getD j true=false->(∀e∈h.after,Region.binds md e=true->e.on≠i)->oi.apart ops h=true)->
   (∀d∈D,f.getD d true=false)->i∈Region.ready md ops f->YieldsIf P ops S oi v a->S w->
   Qk P md ops Q S z n (f.setIfInBounds i true) (a.put oi.dst v) w->Qk P md ops Q S z (n+1) f a w:=by
 intro n
 induction n with
 | zero=>
  intro f a w _ _ k r m H;refine⟨fun l=>(by rw[l] at k;cases k),fun j p=>?_⟩;by_cases e:j=i
  ·exact e ▸ r.wpOp s m ⟨fun _=>m,H⟩
  ·have:=ready_mono p e;rw[H.1] at this;cases this
 | succ n ih=>
  intro f a w C E k r m H;refine⟨fun l=>(by rw[l] at k;cases k),fun j p=>?_⟩;by_cases e:j=i
  ·exact e ▸ r.wpOp s m ⟨fun _=>m,H⟩
  ·have t:=(mem_ready.1 k).1;have F:=Fx O t E p;have R:j≠z:=fun l=>F (l ▸ N)
   obtain⟨G,h,x,T⟩:=mem_ready.1 p;have U:∀e∈h.after,Region.binds md e=true->e.on≠i:=fun e V W X=>by
    have q:=T e V W;rw[X] at q;rcases Nat.lt_or_ge i f.size with y|y
    ·simp[y] at t q;rw[t] at q;cases q
    ·simp[Array.getElem?_eq_none y] at q
   have Y:=wpOp_putIf x (C j h x e G U) (fun A b=>Region.noSelect_spec B i oi A b s) (fun A b=>Region.noSelect_spec B j h A b x) M r (H.2 j (ready_mono p e));refine wpOp_mono (fun b u g=>⟨g.2.1,ih (f.setIfInBounds j true) b u (fun I Z hk a0 J a1=>C I Z hk a0 ?_ a1) (fun d K=>?_) (ready_mono k (Ne.symm e)) g.1 (g.2.1 R) ?_⟩) Y
   ·by_cases L:j=I
    ·exact L ▸ G
    ·rw[getD_set_ne true L] at J;exact J
   ·rw[getD_set_ne true (fun l:j=d=>F (l ▸ K))];exact E d K
   ·rw[Array.setIfInBounds_comm _ _ e];exact g.2.2
theorem Qk.take(i:Nat)(D:List Nat){v:KI}(f:ops[i]? =some oi)(h:Region.noSelect ops=true)
 (j:Region.free md ops up i=true) (k:(Region.ready md ops up).contains i=true) (b:(D.contains z && pX md ops i D && D.all fun d=>!up.getD d true)=true)
 (l:∀c a w,Q (.panic c) (a.put oi.dst v) w->Q (.panic c) a w) (m:YieldsIf P ops S oi v a) (p:S w)
 (q:Qk P md ops Q S z n (up.setIfInBounds i true) (a.put oi.dst v) w):Qk P md ops Q S z (n+1) up a w:=by
 simp only[Bool.and_eq_true,List.contains_iff_mem,List.all_eq_true,Bool.not_eq_true'] at b;exact Qk.take' f h l b.1.1 b.1.2 n up a w (Region.free_spec f j) b.2 (by simpa using k) m p q
theorem Qk.next(i:Nat){o:Oper}(d:Region.ready md ops up=[i])(h:ops[i]? =some o)
 (j:∀K:Act->KH->Prop,Shut (∀b u,(i≠z->S u)->Qk P md ops Q S z n (up.setIfInBounds i true) b u->K b u)->if Region.wanted o (yielded ops a.tmps)=true then Oper.wp P o a w K Q else K (a.put o.dst undef) w):
  Qk P md ops Q S z (n+1) up a w:=by
 refine⟨fun e=>(by rw[d] at e;cases e),fun k f=>?_⟩;rw[d] at f;obtain rfl:k=i:=by simpa using f
 exact wpOp_step h (fun K l=>j K (fun b u m p=>l b u ⟨m,p⟩))
theorem Qk.two(i j:Nat){d:Oper}(h:Region.ready md ops up=[i,j])(l:ops[i]? =some oi)(m:ops[j]? =some d)
 (c:∀K:Act->KH->Prop,Shut (∀b u,(i≠z->S u)->Qk P md ops Q S z n (up.setIfInBounds i true) b u->K b u)->if Region.wanted oi (yielded ops a.tmps)=true then Oper.wp P oi a w K Q else K (a.put oi.dst undef) w)
 (h2:∀K:Act->KH->Prop,Shut (∀b u,(j≠z->S u)->Qk P md ops Q S z n (up.setIfInBounds j true) b u->K b u)->if Region.wanted d (yielded ops a.tmps)=true then Oper.wp P d a w K Q else K (a.put d.dst undef) w):
  Qk P md ops Q S z (n+1) up a w:=by
 refine⟨fun k=>(by rw[h] at k;cases k),fun p e=>?_⟩;rw[h] at e;simp only[JN,JO,or_false] at e;rcases e with rfl | rfl
 ·exact wpOp_step l (fun K f=>c K (fun b u c h2=>f b u ⟨c,h2⟩))
 ·exact wpOp_step m (fun K f=>h2 K (fun b u c h2=>f b u ⟨c,h2⟩))
theorem Qk.done(b:Region.ready md ops up=[])(h:Q .normal a w):Qk P md ops Q S z n up a w:=by
 cases n with
 | zero=>exact⟨b,h⟩
 | succ n=>exact⟨fun _=>h,by rw[b];simp⟩
theorem upA{α:Type}{l:List α}{i:Nat}{a:α}:l.toArray.setIfInBounds i a= (l.set i a).toArray:=List.setIfInBounds_toArray ..
theorem upB{α:Type}{x:α}{c:List α}{a:α}:(x :: c).set 0 a=a :: c:=List.set_cons_zero
theorem upC{α:Type}{x:α}{c:List α}{i:Nat}{a:α}:(x :: c).set (i+1) a=x :: c.set i a:=JS
def Zz(md:Region.Mode)(ops:Array Oper)(i:Nat):List Nat:=
 (List.range ops.size).foldl (fun D d=>match ops[d]? with
  | some o=>if (o.after.toList.any fun e=>Region.binds md e && (e.on == i || D.contains e.on))=true then D++ [d] else D
  | none=>D) []
theorem ae(i:Nat){v:KI}{b:Act}(e:S w)
 (h:Qk P md ops Q S z n (up.setIfInBounds i true) b w) (f:ops[i]? =some oi:=by (simp only[List.getElem?_toArray];rfl)) (j:∀u,S u->(execOp a.eval oi).run P u= .ok (.value v) u:=by (intro u hu;(try dsimp only at hu);go_simp;(try with_reducible rfl)))
 (k:a.put oi.dst v=b:=by (first | (simp only[Act.put,upA,upB,upC];exact rfl) | simp only[Act.put,upA,upB,upC] | exact rfl)) (l:Region.noSelect ops=true:=by kernel_rfl)
 (m:Region.free md ops up i=true:=by kernel_rfl) (p:(Region.ready md ops up).contains i=true:=by kernel_rfl) (q:((Zz md ops i).contains z && pX md ops i (Zz md ops i) && (Zz md ops i).all fun d=>!up.getD d true)=true:=by kernel_rfl)
 (r:∀c a w,Q (.panic c) (a.put oi.dst v) w->Q (.panic c) a w:=by (first | exact fun _ _ _ h=>h | exact fun _ _ _ h=>nomatch h.1)) (s:Region.wanted oi (yielded ops a.tmps)=true:=by rfl):Qk P md ops Q S z (n+1) up a w:=
 Qk.take i _ f l m p q r (Or.inl ⟨s,j⟩) e (by rw[k];exact h)
theorem mf(i:Nat){b:Act}(e:S w)
 (h:Qk P md ops Q S z n (up.setIfInBounds i true) b w) (f:ops[i]? =some oi:=by (simp only[Kw];rfl))
 (j:a.put oi.dst undef=b:=by (first | (simp only[Act.put,upA,upB,upC];exact rfl) | simp only[Act.put,upA,upB,upC] | exact rfl)) (k:Region.noSelect ops=true:=by kernel_rfl)
 (l:Region.free md ops up i=true:=by kernel_rfl) (m:(Region.ready md ops up).contains i=true:=by kernel_rfl) (p:((Zz md ops i).contains z && pX md ops i (Zz md ops i) && (Zz md ops i).all fun d=>!up.getD d true)=true:=by kernel_rfl)
 (q:∀c a w,Q (.panic c) (a.put oi.dst undef) w->Q (.panic c) a w:=by (first | exact fun _ _ _ h=>h | exact fun _ _ _ h=>nomatch h.1)) (r:Region.wanted oi (yielded ops a.tmps)=false:=by rfl):Qk P md ops Q S z (n+1) up a w:=
 Qk.take i _ f k l m p q (Or.inr ⟨r,rfl⟩) e (by rw[j];exact h)
theorem af(i:Nat){o:Oper} 
 (h:∀K:Act->KH->Prop,Shut (∀b u,(i≠z->S u)->Qk P md ops Q S z n (up.setIfInBounds i true) b u->K b u)->if Region.wanted o (yielded ops a.tmps)=true then Oper.wp P o a w K Q else K (a.put o.dst undef) w)
 (d:Region.ready md ops up=[i]:=by kernel_rfl) (e:ops[i]? =some o:=by (simp only[Kw];rfl)):Qk P md ops Q S z (n+1) up a w:=Qk.next i d e h
theorem ai(i:Nat){o:Oper} 
 (h:∀K:Act->KH->Prop,Shut (∀b u,(i≠z->S u)->Qk P md ops Q S z n (up.setIfInBounds i true) b u->K b u)->Oper.wp P o a w K Q)
 (c:Region.ready md ops up=[i]:=by kernel_rfl) (d:ops[i]? =some o:=by (simp only[Kw];rfl)) (e:Region.wanted o (yielded ops a.tmps)=true:=by rfl):Qk P md ops Q S z (n+1) up a w:=Qk.next i c d fun K f=>by rw[Kg e];exact h K f
theorem bG(i j:Nat){c:Oper} 
 (d:∀K:Act->KH->Prop,Shut (∀b u,(i≠z->S u)->Qk P md ops Q S z n (up.setIfInBounds i true) b u->K b u)->if Region.wanted oi (yielded ops a.tmps)=true then Oper.wp P oi a w K Q else K (a.put oi.dst undef) w)
 (h2:∀K:Act->KH->Prop,Shut (∀b u,(j≠z->S u)->Qk P md ops Q S z n (up.setIfInBounds j true) b u->K b u)->if Region.wanted c (yielded ops a.tmps)=true then Oper.wp P c a w K Q else K (a.put c.dst undef) w)
 (e:Region.ready md ops up=[i,j]:=by kernel_rfl) (f:ops[i]? =some oi:=by (simp only[Kw];rfl)) (h:ops[j]? =some c:=by (simp only[Kw];rfl)):Qk P md ops Q S z (n+1) up a w:=Qk.two i j e f h d h2
theorem bS(z:Nat){id:Nat}(b:∀u,K_ w u->S u)(h:∀wd,K_ w wd->S wd->Qk P .any ops Q S z ops.size (Array.replicate ops.size false) a wd)(d:P.follows .mixedOrders=true:=by kernel_rfl):(Code.region id ops true).wp P Q a w:=
 Qk.region d S z (b _ (aG w)) fun e=>h _ (aG w) e
theorem gL(z:Nat){R:KH->Prop}{id:Nat}(c:∀u,R u->S u)(d:R w.drew)(h:S w.drew->Qk P .any ops Q S z ops.size (Array.replicate ops.size false) a w.drew)(f:P.follows .mixedOrders=true:=by kernel_rfl):(Code.region id ops true).wp P Q a w:=
 Qk.region f S z (c _ d) h
theorem ay(h:Q .normal a w)(c:Region.ready md ops up=[]:=by kernel_rfl):Qk P md ops Q S z n up a w:=Qk.done c h
theorem aB(i:Nat){v0 v1 v2 r:KI}{b e f j:Oper}{k l m s:Act}(p:S w)
 (h:Qk P md ops Q S z n ((((up.setIfInBounds i true).setIfInBounds (i+1) true).setIfInBounds (i+2) true).setIfInBounds (i+3) true) s w)
 (t:ops[i]? =some b:=by (simp only[List.getElem?_toArray];rfl)) (v:Region.wanted b (yielded ops a.tmps)=true:=by rfl) (x:∀u,S u->(execOp a.eval b).run P u= .ok (.value v0) u:=by (intro u hu;(try dsimp only at hu);go_simp;(try with_reducible rfl))) (y:a.put b.dst v0=k:=by (first | (simp only[Act.put,upA,upB,upC];exact rfl) | simp only[Act.put,upA,upB,upC] | exact rfl))
 (A:Region.free md ops up i=true:=by kernel_rfl) (B:(Region.ready md ops up).contains i=true:=by kernel_rfl) (C:((Zz md ops i).contains z && pX md ops i (Zz md ops i) && (Zz md ops i).all fun d=>!up.getD d true)=true:=by kernel_rfl) (D:∀c a w,Q (.panic c) (a.put b.dst v0) w->Q (.panic c) a w:=by (first | exact fun _ _ _ h=>h | exact fun _ _ _ h=>nomatch h.1))
 (E:ops[i+1]? =some e:=by (simp only[List.getElem?_toArray];rfl)) (F:Region.wanted e (yielded ops k.tmps)=true:=by rfl) (G:∀u,S u->(execOp k.eval e).run P u= .ok (.value v1) u:=by (intro u hu;(try dsimp only at hu);go_simp;(try with_reducible rfl))) (H:k.put e.dst v1=l:=by (first | (simp only[Act.put,upA,upB,upC];exact rfl) | simp only[Act.put,upA,upB,upC] | exact rfl))
 (I:Region.free md ops (up.setIfInBounds i true) (i+1)=true:=by kernel_rfl) (J:(Region.ready md ops (up.setIfInBounds i true)).contains (i+1)=true:=by kernel_rfl) (K:((Zz md ops (i+1)).contains z && pX md ops (i+1) (Zz md ops (i+1)) && (Zz md ops (i+1)).all fun d=>!(up.setIfInBounds i true).getD d true)=true:=by kernel_rfl) (L:∀c a w,Q (.panic c) (a.put e.dst v1) w->Q (.panic c) a w:=by (first | exact fun _ _ _ h=>h | exact fun _ _ _ h=>nomatch h.1))
 (M:ops[i+2]? =some f:=by (simp only[List.getElem?_toArray];rfl)) (N:Region.wanted f (yielded ops l.tmps)=true:=by rfl) (O:∀u,S u->(execOp l.eval f).run P u= .ok (.value v2) u:=by (intro u hu;(try dsimp only at hu);go_simp;(try with_reducible rfl))) (R:l.put f.dst v2=m:=by (first | (simp only[Act.put,upA,upB,upC];exact rfl) | simp only[Act.put,upA,upB,upC] | exact rfl))
 (T:Region.free md ops ((up.setIfInBounds i true).setIfInBounds (i+1) true) (i+2)=true:=by kernel_rfl) (U:(Region.ready md ops ((up.setIfInBounds i true).setIfInBounds (i+1) true)).contains (i+2)=true:=by kernel_rfl) (V:((Zz md ops (i+2)).contains z && pX md ops (i+2) (Zz md ops (i+2)) && (Zz md ops (i+2)).all fun d=>!((up.setIfInBounds i true).setIfInBounds (i+1) true).getD d true)=true:=by kernel_rfl) (W:∀c a w,Q (.panic c) (a.put f.dst v2) w->Q (.panic c) a w:=by (first | exact fun _ _ _ h=>h | exact fun _ _ _ h=>nomatch h.1))
 (X:ops[i+3]? =some j:=by (simp only[List.getElem?_toArray];rfl)) (Y:Region.wanted j (yielded ops m.tmps)=true:=by rfl) (Z:∀u,S u->(execOp m.eval j).run P u= .ok (.value r) u:=by (intro u hu;(try dsimp only at hu);go_simp;(try with_reducible rfl))) (a0:m.put j.dst r=s:=by (first | (simp only[Act.put,upA,upB,upC];exact rfl) | simp only[Act.put,upA,upB,upC] | exact rfl))
 (a1:Region.free md ops (((up.setIfInBounds i true).setIfInBounds (i+1) true).setIfInBounds (i+2) true) (i+3)=true:=by kernel_rfl) (a2:(Region.ready md ops (((up.setIfInBounds i true).setIfInBounds (i+1) true).setIfInBounds (i+2) true)).contains (i+3)=true:=by kernel_rfl) (a3:((Zz md ops (i+3)).contains z && pX md ops (i+3) (Zz md ops (i+3)) && (Zz md ops (i+3)).all fun d=>!(((up.setIfInBounds i true).setIfInBounds (i+1) true).setIfInBounds (i+2) true).getD d true)=true:=by kernel_rfl) (a4:∀c a w,Q (.panic c) (a.put j.dst r) w->Q (.panic c) a w:=by (first | exact fun _ _ _ h=>h | exact fun _ _ _ h=>nomatch h.1))
 (q:Region.noSelect ops=true:=by kernel_rfl):Qk P md ops Q S z (n+4) up a w:=
 Qk.take i _ t q A B C D (Or.inl ⟨v,x⟩) p (by rw[y];exact (Qk.take (i+1) _ E q I J K L (Or.inl ⟨F,G⟩) p (by rw[H];exact (Qk.take (i+2) _ M q T U V W (Or.inl ⟨N,O⟩) p (by rw[R];exact (Qk.take (i+3) _ X q a1 a2 a3 a4 (Or.inl ⟨Y,Z⟩) p (by rw[a0];exact h)))))))
end
open Go.RowKit
structure Rd (w:KH) (rb:Nat) (a:KG) (cap:Nat) (bs:List UInt8) (p:Nat):Prop where
 row:au w rb 90 2
 c0:w.cell? ⟨rb,0,none⟩=some (.slice a bs.length cap)
 c1:w.cell? ⟨rb,1,none⟩=some (.int .i64 (p:Int))
 bytes:∀i,i<bs.length->∃b o,a=some ⟨b,o,none⟩/\b≠rb/\b<w.heap.size/\w.cell? ⟨b,o+i,none⟩=some (.int .u8 ((bs.getD i 0).toNat:Int))
variable {bs : List UInt8} {cap p rb : Nat} {a : KG} {w : KH}
theorem Rd.drewN(h:Rd w rb a cap bs p)(k:Nat):Rd (w.drewN k) rb a cap bs p:=
 ⟨h.row.block rfl,h.c0,h.c1,h.bytes⟩
theorem IA(a:Nat)(h:a<1099511627776):bits .xor .i64 (a:Int) ((a:Int) / 64)= ((a ^^^ a / 64:Nat):Int)/\a ^^^ a / 64<1099511627776:=by
 have b:a ^^^ a / 64<2 ^ 40:=Nat.xor_lt_two_pow (by omega) (by omega);have d:((a:Int) / 64)= ((a / 64:Nat):Int):=by omega
 have c:(BitVec.ofInt 64 (a:Int)).toNat=a:=by
  rw[BitVec.ofInt_natCast,BitVec.toNat_ofNat];exact Nat.mod_eq_of_lt (by omega)
 have e:(BitVec.ofInt 64 ((a / 64:Nat):Int)).toNat=a / 64:=by
  rw[BitVec.ofInt_natCast,BitVec.toNat_ofNat];exact Nat.mod_eq_of_lt (by omega)
 refine⟨?_,by omega⟩;rw[d];show IntKind.i64.wrap ((BitVec.ofInt 64 (a:Int) ^^^ BitVec.ofInt 64 ((a / 64:Nat):Int)).toNat:Int)=_;rw[BitVec.toNat_xor,c,e];obtain⟨z,f⟩:=ah (a ^^^ a / 64);rw[<-f] at b⊢;simp[IntKind.wrap,IntKind.bits,IntKind.signed];omega
def FJ(w w':KH)(rb:Nat)(a:KG)(cap:Nat)(bs:List UInt8)(p n:Nat)(e:Ending):Prop:=
 ∃v:Nat,e= .returned (.int .i64 (v:Int))/\v<=n-1/\Rd w' rb a cap bs (p+1)/\Xj rb (rb+1) w w'
theorem iO(w:KH)(c:Nat)(a:KG)(q:Nat)(b:List UInt8)(p n:Nat)(d:Rd w c a q b p)(W:p<=1000000)(Y:n<=100000)(a0:b.length<=2000):
  Calls prog 21 #[.pointer (some ⟨c,0,none⟩),.int .i64 (n:Int)] w fun e w'=>FJ w w' c a q b p n e:=by
 have M:=d.c0;have c1:=d.c1;have zb:=d.row.lt;obtain⟨_,f1⟩:=d.row.row.at (i:=1) (by omega);have D:Rd (w.setCell ⟨c,1,none⟩ (.int .i64 ((p:Int)+1))) c a q b (p+1):=by
  refine⟨d.row.set _,by rw[Xk (by omega)];exact M,by rw[aS d.row.row (by omega)];rfl,fun i N=>?_⟩;obtain⟨r,o,e,k,s,t⟩:=d.bytes i N;exact⟨r,o,e,k,by rw[size_setCell];exact s,by rw[Jr _ _ _ _ (fun e=>k (congrArg Addr.block e).symm)];exact t⟩
 have f:=Kz D;have l:Xj c (c+1) w (w.setCell ⟨c,1,none⟩ (.int .i64 ((p:Int)+1))):=(Xj.refl _ _ _).setCell (by simp) (by simp) _;clear D;by_cases a1:(n:Int)<1
 ·go_enter func21,ntmps21
  go_wp2
  go_ret
  exact⟨0,rfl,Ja _,f.o,l⟩
 ·by_cases E:b.length=0
  ·have O:((b.length:Int) == 0)=true:=by simp[E]
   go_enter func21,ntmps21
   go_wp2
   go_ret
   exact⟨0,rfl,Ja _,f.o,l⟩
  ·have O:((b.length:Int) == 0)=false:=by simpa using E
   by_cases hk:(p:Int)<b.length
   ·obtain⟨r,o,rfl,k,s,t⟩:=f.o.bytes p (by omega);obtain⟨y,F⟩:=ah (b.getD p 0);rw[<-F] at t;have a2:=y.toNat_lt;clear F;go_enter func21,ntmps21
    go_wp2
    go_ret
    refine⟨y.toNat % n, ?_, ?_,f.o,l⟩
    ·simp
    ·have:=Nat.mod_lt y.toNat (by omega:0<n);omega
   ·obtain⟨h,v⟩:=ah (p % b.length);obtain⟨j,x⟩:=ah ((p*7+3) % b.length);obtain⟨m,A⟩:=ah (p / b.length);have P:h<b.length:=by rw[v];exact Nat.mod_lt _ (by omega)
    have Q:j<b.length:=by rw[x];exact Nat.mod_lt _ (by omega)
    have a3:m<=p:=by rw[A];exact Nat.div_le_self _ _
    have e1:(p:Int) % (b.length:Int)= (h:Int):=by rw[v];omega
    have e2:((p:Int)*7+3) % (b.length:Int)= (j:Int):=by rw[x];push_cast;rfl
    have e3:(p:Int) / (b.length:Int)= (m:Int):=by rw[A];push_cast;rfl
    obtain⟨r,o,rfl,k,s,R⟩:=f.o.bytes h P;obtain⟨b',o',G,_,_,S⟩:=f.o.bytes j Q;simp only[JI,Kv,and_true] at G;obtain⟨rfl,rfl⟩:=G;obtain⟨B,H⟩:∃y,y=b.getD h 0:=⟨_,rfl⟩;obtain⟨C,I⟩:∃y,y=b.getD j 0:=⟨_,rfl⟩;rw[<-H] at R;rw[<-I] at S;have a4:=B.toNat_lt;have a5:=C.toNat_lt;clear v x A H I;have i1:(h:Int)<(b.length:Int):=by omega
    have i2:(j:Int)<(b.length:Int):=by omega
    go_enter func21,ntmps21
    go_wp2
    go_quiet (fail)
    obtain⟨X,J⟩:∃X:Nat,X=B.toNat*131+C.toNat*1117+p*29+m*53:=⟨_,rfl⟩;have K:(B.toNat:Int)*131+ (C.toNat:Int)*1117+ (p:Int)*29+ (m:Int)*53= (X:Int):=by rw[J];push_cast;rfl
    rw[K];have T:X<1099511627776:=by omega
    obtain⟨U,V⟩:=IA X T;obtain⟨Z,L⟩:=ah (X ^^^ X / 64);rw[<-L] at U V;clear L J K;go_wp2
    go_ret
    refine⟨Z % n, ?_, ?_,f.o.drewN nq,l.drewN nq⟩
    ·simp
    ·have:=Nat.mod_lt Z (by omega:0<n);omega
def BytesAt(w:KH)(a:KG)(bs:List UInt8):Prop:=
 ∀i,i<bs.length->∃b o,a=some ⟨b,o,none⟩/\b<w.heap.size/\w.cell? ⟨b,o+i,none⟩=some (.int .u8 ((bs.getD i 0).toNat:Int))
theorem BytesAt.take(h:BytesAt w a bs)(n:Nat):BytesAt w a (bs.take n):=by
 intro i c;obtain⟨b,o,e,d,f⟩:=h i (by simp at c;omega);refine⟨b,o,e,d, ?_⟩;rw[f];have j:i<n:=by simp at c;omega
 simp[List.getD_eq_getElem?_getD,j]
theorem Rd.made(b:Nat)(h:BytesAt w a bs):
  Rd (w.alloc (.cells #[.slice a bs.length b,.int .i64 0] 90)) w.heap.size a b bs 0:=by
 refine⟨au.made w _ _, ?_, ?_,fun i d=>?_⟩
 ·rw[World.cell?_alloc_mark];rfl
 ·rw[World.cell?_alloc_mark];rfl
 ·obtain⟨f,o,e,c,j⟩:=h i d;exact⟨f,o,e,by omega,I_ c (ag w _).size,by rw[(ag w _).cell c];exact j⟩
def Il(w w':KH)(a:KG)(cap:Nat)(bs:List UInt8)(e:Ending):Prop:=
 ∃rb,e= .returned (.pointer (some ⟨rb,0,none⟩))/\w.heap.size<=rb/\Rd w' rb a cap (bs.take 2000) 0/\K_ w w'
theorem EA(w:KH)(a:KG)(c:Nat)(b:List UInt8)(h:BytesAt w a b)(i:b.length<=c)(j:b.length<=100000000):
  Calls prog 20 #[.slice a b.length c] w fun e w'=>Il w w' a c b e:=by
 by_cases k:(2000:Int)<b.length
 ·go_enter func20,ntmps20
  go_wp2
  go_ret
  have f:(b.take 2000).length=2000:=by simp;omega
  have d:=Rd.made c (h.take 2000);rw[f] at d;exact⟨w.heap.size,rfl,IZ _,d,ag w _⟩
 ·go_enter func20,ntmps20
  go_wp2
  go_ret
  have f:b.take 2000=b:=JC (by omega);have d:=Rd.made c h;exact⟨w.heap.size,rfl,IZ _,by rw[f];exact d,ag w _⟩
def zm(w w':KH)(e:Ending):Prop:=
 ∃s:KC,e= .returned (.string s)/\s.size<=2/\K_ w w'
def jL(i:Nat):KC:=⟨#[UInt8.ofNat (97+i)]⟩
theorem BO{i j:Nat}(c:i<26)(d:j<26)(h:jL i=jL j):i=j:=by
 have a:UInt8.ofNat (97+i)=UInt8.ofNat (97+j):=by
  have:=congrArg (fun x:KC=>x.data.toList) h;simpa[jL] using this
 have b:=congrArg UInt8.toNat a;simp only[UInt8.toNat_ofNat'] at b;omega
theorem DC :∀q,q<26->((⟨#[97,98,99,100,101,102,103,104,105,106,107,108,109,110,111,112,113,114,115,116,117,118,119,120,121,122]⟩:KC).extract q 26).extract 0 1=jL q:=by decide
theorem tK(w:KH)(i:Nat)(E:i<=100000):
  Calls prog 24 #[.int .i64 (i:Int)] w fun e w'=>∃s:KC,e= .returned (.string s)/\s.size<=2/\(i<26->s=jL i)/\K_ w w':=by
 obtain⟨q,n⟩:=ah (i % 26);obtain⟨d,p⟩:∃q,q=i / 26 % 3:=⟨_,rfl⟩;obtain⟨k,r⟩:=ah (i / 26);have F:(i:Int).tmod 26= (q:Int):=by rw[Int.tmod_eq_emod_of_nonneg (by omega)];omega
 have G:(i:Int).tdiv 26= (k:Int):=by rw[Int.tdiv_eq_ediv_of_nonneg (by omega)];omega
 have H:(k:Int).tmod 3= (d:Int):=by rw[Int.tmod_eq_emod_of_nonneg (by omega)];omega
 have t:q<26:=by omega
 have I:d<3:=by omega
 have J:IntKind.i64.wrap (k:Int)= (k:Int):=by simp[IntKind.wrap,IntKind.bits,IntKind.signed];omega
 have x:Hid (i<26->d=0/\q=i):=fun h=>by omega
 clear n p r;obtain⟨b,L,y,l⟩:∃b:KC,(∀w:KH,(Instr.slice 9 (.string ⟨#[97,98,99,100,101,102,103,104,105,106,107,108,109,110,111,112,113,114,115,116,117,118,119,120,121,122]⟩) (some (.int .i64 (q:Int))) none none).run prog w= .ok (.string b) w)/\(1:Int)<=b.size/\b= (⟨#[97,98,99,100,101,102,103,104,105,106,107,108,109,110,111,112,113,114,115,116,117,118,119,120,121,122]⟩:KC).extract q 26:=
  ⟨_,fun w=>run_slice_string_l w 9 ⟨#[97,98,99,100,101,102,103,104,105,106,107,108,109,110,111,112,113,114,115,116,117,118,119,120,121,122]⟩ underlying9 .i64 (q:Int) (by omega) (by show (q:Int)<=((26:Nat):Int);omega),by
   rw[ByteArray.size_extract];show (1:Int)<=((min 26 26-(q:Int).toNat:Nat):Int);omega,rfl⟩
 obtain⟨j,M,A,m⟩:∃j:KC,(∀w:KH,(Instr.slice 9 (.string b) none (some (.int .i64 1)) none).run prog w= .ok (.string j) w)/\j.size=1/\j=b.extract 0 1:=
  ⟨_,fun w=>run_slice_string_h w 9 b underlying9 .i64 1 (by omega) y,by
   rw[ByteArray.size_extract];show min 1 b.size-0=1;omega,rfl⟩
 have B:Hid (j=jL q):=by rw[m,l];exact DC q t
 clear l m;go_enter func24,ntmps24
 go_wp2
 refine Qk.region (by kernel_rfl) (fun w'=>K_ w w') 11 (aG w) (fun f=>?_);refine ae 0 f ?_;refine Qk.take 1 [2,3,10,11] (v:= .int .i64 (q:Int)) (by (simp only[Kw,JW,JX];rfl)) (by kernel_rfl) (by kernel_rfl) (by kernel_rfl) (by kernel_rfl) (by exact fun _ _ _ h=>h) (Or.inl ⟨by rfl, ?_⟩) f ?_
 ·intro u c;try dsimp only at c
  go_simp
  try with_reducible rfl
 try simp only[Act.put,upA,upB,upC]
 refine Qk.take 2 [3,10,11] (v:= .string b) (by (simp only[Kw,JW,JX];rfl)) (by kernel_rfl) (by kernel_rfl) (by kernel_rfl) (by kernel_rfl) (by exact fun _ _ _ h=>h) (Or.inl ⟨by rfl, ?_⟩) f ?_
 ·intro u c;try dsimp only at c
  go_simp
  try with_reducible rfl
 try simp only[Act.put,upA,upB,upC]
 refine Qk.take 3 [10,11] (v:= .string j) (by (simp only[Kw,JW,JX];rfl)) (by kernel_rfl) (by kernel_rfl) (by kernel_rfl) (by kernel_rfl) (by exact fun _ _ _ h=>h) (Or.inl ⟨by rfl, ?_⟩) f ?_
 ·intro u c;try dsimp only at c
  go_simp
  try with_reducible rfl
 try simp only[Act.put,upA,upB,upC]
 refine ae 5 f ?_;refine Qk.take 6 [7,8,9,10,11] (v:= .int .i64 (k:Int)) (by (simp only[Kw,JW,JX];rfl)) (by kernel_rfl) (by kernel_rfl) (by kernel_rfl) (by kernel_rfl) (by exact fun _ _ _ h=>h) (Or.inl ⟨by rfl, ?_⟩) f ?_
 ·intro u c;try dsimp only at c
  go_simp
  try with_reducible rfl
 try simp only[Act.put,upA,upB,upC]
 refine Qk.take 7 [8,9,10,11] (v:= .int .i64 (d:Int)) (by (simp only[Kw,JW,JX];rfl)) (by kernel_rfl) (by kernel_rfl) (by kernel_rfl) (by kernel_rfl) (by exact fun _ _ _ h=>h) (Or.inl ⟨by rfl, ?_⟩) f ?_
 ·intro u c;try dsimp only at c
  go_simp
  try with_reducible rfl
 try simp only[Act.put,upA,upB,upC]
 refine ai 4 (fun K a=>?_);go_simp
 refine a.out _ _ (fun _=>(by repeat (first | apply K_.drew | apply K_.alloc | exact K_.refl _ | assumption))) ?_;clear a K;try simp only[Act.put,upA,upB,upC]
 have C:d=0\/d=1\/d=2:=by omega
 obtain rfl|rfl|rfl:=C
 all_goals
  refine ai 8 (fun K a=>?_);go_simp
  refine a.out _ _ (fun _=>(by repeat (first | apply K_.drew | apply K_.alloc | exact K_.refl _ | assumption))) ?_;clear a K;try simp only[Act.put,upA,upB,upC]
  refine ai 9 (fun K a=>?_);go_simp
  refine a.out _ _ (fun _=>(by repeat (first | apply K_.drew | apply K_.alloc | exact K_.refl _ | assumption))) ?_;clear a K;try simp only[Act.put,upA,upB,upC]
  refine ai 10 (fun K a=>?_);go_simp
  refine a.out _ _ (fun _=>(by repeat (first | apply K_.drew | apply K_.alloc | exact K_.refl _ | assumption))) ?_;clear a K;try simp only[Act.put,upA,upB,upC]
  refine af 11 (fun K a=>?_);go_simp
  refine a.out _ _ (fun h=>Ki rfl h) ?_;clear a K;try simp only[Act.put,upA,upB,upC]
  refine ay ?_;go_wp2
  go_ret
  exact⟨_,rfl,by rw[ByteArray.size_append,A];decide,fun h=>(by
   obtain⟨N,D⟩:=x.o h
   first
    | (exfalso;omega)
    | (rw[B.o,D];exact ByteArray.ext (by simp[jL]))),(ag w _).drew⟩
theorem lG(w:KH)(i:Nat)(a:i<=100000):
  Calls prog 24 #[.int .i64 (i:Int)] w fun e w'=>zm w w' e:=
 (tK w i a).mono fun _ _ ⟨s,c,d,_,f⟩=>⟨s,c,d,f⟩
variable {w' : KH}
theorem Rd.kept(h:Rd w rb a cap bs p)(k:K_ w w'):Rd w' rb a cap bs p:=by
 refine⟨h.row.kept k,by rw[k.cell h.row.lt];exact h.c0,by rw[k.cell h.row.lt];exact h.c1,fun i d=>?_⟩;obtain⟨b,o,e,f,c,j⟩:=h.bytes i d;exact⟨b,o,e,f,I_ c k.size,by rw[k.cell c];exact j⟩
def GR(w w':KH)(rb:Nat)(a:KG)(cap:Nat)(bs:List UInt8)(p t m:Nat)(e:Ending):Prop:=
 ∃(s:KC) (p':Nat),e= .returned (.string s)/\s.size<=m/\p<=p'/\p'<=p+t/\Rd w' rb a cap bs p'/\Xj rb (rb+1) w w'
theorem aI(w:KH)(b:Nat)(a:KG)(d:Nat)(c:List UInt8)(p:Nat)(m:Int)(n:Nat)(f:m= (n:Int))(h:Rd w b a d c p)(i:p<=1000000)(j:n<=100000)(k:c.length<=2000):
  Calls prog 21 #[.pointer (some ⟨b,0,none⟩),.int .i64 m] w fun e w'=>FJ w w' b a d c p n e:=by
 rw[f];exact iO w b a d c p n h i j k
theorem Xj.eX{d e:Nat}{a b c:KH}(h:Xj d e a b)(k:K_ b c):Xj d e a c:=h.trans (.aC k)
theorem Gj(w:KH)(d:Nat)(a:KG)(k:Nat)(h:List UInt8)(p i n:Nat)(B:Rd w d a k h p)(Q:p<=900000)(L:i<=100000)(C:n<=100000)(D:h.length<=2000):
  Calls prog 159 #[.pointer (some ⟨d,0,none⟩),.int .i64 (i:Int),.int .i64 (n:Int)] w fun e w'=>GR w w' d a k h p 2 4 e:=by
 go_enter func159,ntmps159
 go_wp2_with fail
 refine (aI _ d a k h p _ 12 rfl B (by omega) (by omega) D).mono ?_;rintro e w1 ⟨v,rfl,x,E,F⟩;have⟨G,H⟩:=aD E F;clear E F B;by_cases r:v=0
 ·have M:((v:Int) == 0)=true:=by simp[r]
  clear x;go_wp2
  go_ret
  exact⟨_,p+1,rfl,by decide,by omega,by omega,G.o,H.o⟩
 ·have M:((v:Int) == 0)=false:=by simpa using r
  have last:∀t:Nat,t<=100000->Calls prog 21 #[.pointer (some ⟨d,0,none⟩),.int .i64 (t:Int)] w1 fun e w'=>∃q:Nat,e= .returned (.int .i64 (q:Int))/\q<=100000/\Rd w' d a k h (p+2)/\Xj d (d+1) w w':=by
   intro t N;refine (iO _ d a k h (p+1) t G.o (by omega) N D).mono ?_;rintro e w2 ⟨q,rfl,j,b,c⟩;exact⟨q,rfl,by omega,b,H.o.trans c⟩
  have y:=Kz last;clear last;by_cases A:v=1
  ·have O:((v:Int) == 1)=true:=by simp[A]
   clear x r A;go_wp2_with fail
   refine (y.o n C).mono ?_;rintro e w2 ⟨q,rfl,j,b,c⟩;have⟨l,m⟩:=aD b c;clear b c;go_wp2_with fail
   refine (lG _ q j).mono ?_;rintro e I ⟨s,rfl,J,f⟩;go_wp2
   go_ret
   exact⟨s,p+2,rfl,by omega,by omega,by omega,l.o.kept f,m.o.eX f⟩
  ·have O:((v:Int) == 1)=false:=by simp;omega
   clear x r A;by_cases K:i=0
   ·have P:((i:Int) == 0)=true:=by simp[K]
    go_wp2_with fail
    refine (y.o n C).mono ?_;rintro e w2 ⟨q,rfl,j,b,c⟩;have⟨l,m⟩:=aD b c;clear b c;go_wp2_with fail
    refine (lG _ q j).mono ?_;rintro e I ⟨s,rfl,J,f⟩;go_wp2
    go_ret
    exact⟨s,p+2,rfl,by omega,by omega,by omega,l.o.kept f,m.o.eX f⟩
   ·have P:((i:Int) == 0)=false:=by simpa using K
    go_wp2_with fail
    refine (y.o i L).mono ?_;rintro e w2 ⟨q,rfl,j,b,c⟩;have⟨l,m⟩:=aD b c;clear b c;go_wp2_with fail
    refine (lG _ q j).mono ?_;rintro e I ⟨s,rfl,J,f⟩;go_wp2
    go_ret
    exact⟨s,p+2,rfl,by omega,by omega,by omega,l.o.kept f,m.o.eX f⟩
theorem zV(w:KH)(s:KC)(n:Nat)(x:n<=1000)(A:s.size<=100):
  Calls prog 96 #[.string s,.int .i64 (n:Int)] w fun e w'=>(∃t:KC,e= .returned (.string t)/\t.size<=n*s.size)/\w'=w:=by
 obtain⟨B,c⟩:=ah (n*s.size);have F:B<=100000:=by rw[c];exact Jb (Nat.mul_le_mul x A) (by omega)
 rw[<-c];have l:=Kz c;clear c;go_enter func96,ntmps96
 go_wp2
 go_loop [0,1,5] (fun C y z=>∃(a o:KC) (m:Nat),C= .string a/\y= .int .i64 (m:Int)/\z= .string o/\m<=n/\o.size+m*a.size<=B/\(m=0\/a.size<=B)) (fun _ y _=>(intOf y).toNat)
 case atStart=>
  refine⟨s,_,n,rfl,rfl,rfl,IZ _, ?_, ?_⟩
  ·have:=l.o;show 0+n*s.size<=B;omega
  ·by_cases f:n=0
   ·exact .inl f
   ·refine .inr ?_;rw[l.o];exact Nat.le_mul_of_pos_left _ (by omega)
 case round=>
  obtain⟨a,o,m,rfl,rfl,rfl,G,h,i⟩:=hrel;by_cases p:m=0
  ·have D:¬(0:Int)<(m:Int):=by omega
   have r:o.size<=B:=by omega
   clear h i;go_wp2
   go_ret
   exact⟨⟨o,rfl,r⟩,rfl⟩
  ·have D:(0:Int)<(m:Int):=by omega
   have H:a.size<=B:=by omega
   have r:o.size<=B:=by omega
   obtain⟨q,v⟩:=ah (m / 2);have I:(m:Int) / 2= (q:Int):=by omega
   have J:q<m:=by omega
   have d:q=0\/(a++a).size<=B:=by
    rw[ByteArray.size_append];by_cases f:q=0
    ·exact .inl f
    ·have:2*a.size<=m*a.size:=Nat.mul_le_mul_right _ (by omega);omega
   by_cases K:m % 2=1
   ·have E:(m:Int) % 2=1:=by omega
    have b:(o++a).size+q*(a++a).size<=B:=by
     rw[ByteArray.size_append,ByteArray.size_append];have:m*a.size=q*(a.size+a.size)+a.size:=by
      rw[show m=q+q+1 by omega,Nat.add_mul,Nat.add_mul,Nat.mul_add];omega
     omega
    have⟨j,k⟩:=aD b d;clear b d h i v p;go_wp2
    go_round
    case rel=>exact⟨a++a,o++a,q,rfl,by go_num,rfl,by omega,j.o,k.o⟩
    case measure=>simp[intOf];omega
   ·have E:(m:Int) % 2=0:=by omega
    have b:o.size+q*(a++a).size<=B:=by
     rw[ByteArray.size_append];have:m*a.size=q*(a.size+a.size):=by
      rw[show m=q+q by omega,Nat.add_mul,Nat.mul_add]
     omega
    have⟨j,k⟩:=aD b d;clear b d h i v p;go_wp2
    go_round
    case rel=>exact⟨a++a,o,q,rfl,by go_num,rfl,by omega,j.o,k.o⟩
    case measure=>simp[intOf];omega
def HZ(w w':KH)(m:Nat)(e:Ending):Prop:=∃s:KC,e= .returned (.string s)/\s.size<=m/\K_ w w'
theorem qP(w:KH)(n:Nat)(b:n<10):Calls prog 127 #[.int .i64 (n:Int)] w fun e w'=>HZ w w' 1 e:=by
 have c:(n:Int)<10:=by omega
 have d:(convert 22 9 (.slice (some ⟨w.heap.size,0,none⟩) 1 1)).run prog (w.alloc (.cells #[.int .u8 (48+ (n:Int))] 5))= .ok (.string (strOfNums [48+ (n:Int)])) (w.alloc (.cells #[.int .u8 (48+ (n:Int))] 5)):=
  run_convert_bytes_arg (P:=prog) _ 22 5 underlying22 underlying5 w.heap.size 0 1 1 [48+ (n:Int)] rfl (fun i f=>by
   obtain rfl:i=0:=by omega
   rw[World.cell?_alloc_mark];rfl) 9 underlying9
 go_enter func127,ntmps127
 go_wp2
 go_ret
 exact⟨_,rfl,by rw[strOfNums_size];exact IZ 1,ag w _⟩
theorem Fg(w:KH)(d:Nat)(a:KG)(h:Nat)(f:List UInt8)(p:Nat)(F:Rd w d a h f p)(S:p<=900000)(G:f.length<=2000):
  Calls prog 160 #[.pointer (some ⟨d,0,none⟩)] w fun e w'=>GR w w' d a h f p 2 31 e:=by
 go_enter func160,ntmps160
 go_wp2_with fail
 refine (aI _ d a h f p _ 10 rfl F (by omega) (by omega) G).mono ?_;rintro e w1 ⟨v,rfl,i,H,I⟩;have⟨x,y⟩:=aD H I;clear H I F;have last:∀(m:Int) (n:Nat),m= (n:Int)->n<=100000->Calls prog 21 #[.pointer (some ⟨d,0,none⟩),.int .i64 m] w1 fun e w'=>∃q:Nat,e= .returned (.int .i64 (q:Int))/\q<=n-1/\Rd w' d a h f (p+2)/\Xj d (d+1) w w':=by
  intro m n A L;refine (aI _ d a h f (p+1) m n A x.o (by omega) L G).mono ?_;rintro e w2 ⟨q,rfl,B,b,c⟩;exact⟨q,rfl,by omega,b,y.o.trans c⟩
 have C:=Kz last;clear last;by_cases j:v=0
 ·have M:((v:Int) == 0)=true:=by simp[j]
  clear i;go_wp2
  go_ret
  exact⟨_,p+1,rfl,by decide,by omega,by omega,x.o,y.o⟩
 have M:((v:Int) == 0)=false:=by simpa using j
 by_cases s:v=1
 ·have N:((v:Int) == 1)=true:=by simp[s]
  clear i;go_wp2
  go_ret
  exact⟨_,p+1,rfl,by decide,by omega,by omega,x.o,y.o⟩
 have N:((v:Int) == 1)=false:=by simp;omega
 by_cases t:v=3
 ·have O:((v:Int) == 3)=true:=by simp[t]
  clear i j s t;go_wp2_with fail
  refine (C.o _ 6 rfl (by omega)).mono ?_;rintro e w2 ⟨q,rfl,B,b,c⟩;have⟨k,l⟩:=aD b c;clear b c;go_wp2_with fail
  refine (lG _ q (by omega)).mono ?_;rintro e J ⟨D,rfl,P,r⟩;go_wp2
  go_ret
  exact⟨_,p+2,rfl,by rw[ByteArray.size_append];show 6+D.size<=31;omega,by omega,by omega,k.o.kept r,l.o.eX r⟩
 have O:((v:Int) == 3)=false:=by simp;omega
 by_cases E:v=2
 ·have Q:((v:Int) == 2)=true:=by simp[E]
  clear i j s E t;go_wp2_with fail
  refine (C.o _ 2 rfl (by omega)).mono ?_;rintro e w2 ⟨q,rfl,B,b,c⟩;have⟨k,l⟩:=aD b c;clear b c;obtain⟨m,A⟩:∃m:Nat,m=30-q:=⟨_,rfl⟩;have T:30-(q:Int)= (m:Int):=by omega
  have U:m<=30:=by omega
  clear A;go_wp2_with fail
  refine (zV _ ⟨#[103]⟩ m (by omega) (by decide)).mono ?_;rintro e J ⟨⟨R,rfl,K⟩,rfl⟩;have V:R.size<=30:=by
   have:(⟨#[103]⟩:KC).size=1:=rfl;rw[this] at K;omega
  clear K;go_wp2
  go_ret
  exact⟨_,p+2,rfl,by omega,by omega,by omega,k.o,l.o⟩
 have Q:((v:Int) == 2)=false:=by simp;omega
 clear i j s E t;go_wp2_with fail
 refine (C.o _ 3 rfl (by omega)).mono ?_;rintro e w2 ⟨q,rfl,B,b,c⟩;have⟨k,l⟩:=aD b c;clear b c;go_wp2_with fail
 refine (qP _ q (by omega)).mono ?_;rintro e J ⟨D,rfl,P,r⟩;go_wp2
 go_ret
 exact⟨_,p+2,rfl,by rw[ByteArray.size_append];show 1+D.size<=31;omega,by omega,by omega,k.o.kept r,l.o.eX r⟩
theorem Tryz.d_ :(prog.info? 9).map (fun i=>(i.zero,i.size,i.bytes))=some (some (.string ByteArray.empty),1,16):=by kernel_rfl
theorem Tryz.om :(prog.info? 177).map (fun i=>(i.zero,i.size,i.bytes))=some (some (.agg #[.string ByteArray.empty,.int .i64 0]),2,24):=by kernel_rfl
theorem Tryz.jB :(prog.info? 83).map (fun i=>(i.zero,i.size,i.bytes))=some (some (.agg #[.slice none 0 0,.int .i64 0,.slice none 0 0,.int .i64 0,.int .i64 0,.bool false,.bool false,.string ByteArray.empty]),8,96):=by kernel_rfl
theorem Tryz.gY :(prog.info? 77).map (·.size)=some 2:=by kernel_rfl
theorem aM{P:Program}{e:TypeId}{z:KI}{size b:Nat}(h:(P.info? e).map (fun i=>(i.zero,i.size,i.bytes))=some (some z,size,b)):∃i,P.info? e=some i/\i.zero=some z/\i.size=size/\i.bytes=b:=by
 obtain⟨i,d,a⟩:=Option.map_eq_some_iff.1 h;simp only[Prod.mk.injEq] at a;exact⟨i,d,a.1,a.2.1,a.2.2⟩
theorem ug(l:List KC):∀u∈l.map Value.string,u.oneCell'=true:=by
 intro u a;obtain⟨x,_,rfl⟩:=Ju.1 a
 rfl
variable {base n : Nat} {t : TypeId} {v : KI}
theorem bf{l:List KC}(h:w.ownsRow base t 1 v n (l.map Value.string)):∃a b,v= .slice a l.length b/\l.length<=b/\eD w t a l:=by
 have d:n=l.length:=by have:=h.1;simp at this;omega
 subst d;rcases h.2 with⟨rfl,c⟩|⟨g,b,e,rfl,m,f,j,_,_,_⟩
 ·exact⟨none,0,by rw[c],by omega,.inl (Kn c)⟩
 ·refine⟨_,b,rfl,j,.inr ⟨g,e,_,rfl,f,fun i k=>?_⟩⟩;have:=h.cells (g:=g) rfl i (.string (l.getD i ByteArray.empty)) (by simp[List.getD,k]);rw[JL,JA] at this;exact this
def aT(l:List bD):List KI:=(l.map bD.cells).flatten
theorem h_(l:List bD):(aT l).length=l.length*2:=by
 induction l with
 | nil=>rfl
 | cons c r ih=>simp only[aT,List.map_cons,List.flatten_cons,JH,JK] at ih⊢;rw[ih];simp[bD.cells];omega
theorem sj(l:List bD)(c:bD):aT (l++ [c])=aT l++c.cells:=by simp[aT]
theorem uf(l:List bD):∀u∈aT l,u.oneCell'=true:=by
 intro u a;simp only[aT,List.mem_flatten,Ju] at a;obtain⟨_,⟨c,_,rfl⟩,a⟩:=a;simp only[bD.cells,JN,JO,or_false] at a;rcases a with rfl | rfl <;> rfl
theorem jU :∀(l:List bD) (i j:Nat),i<l.length->j<2->(aT l)[i*2+j]? = ((l.getD i bD.zero).cells)[j]?
 | [],_,_,h,_=>aP h
 | c :: r,0,j,_,hj=>by
  have e:aT (c :: r)=c.cells++aT r:=rfl;rw[e,Nat.zero_mul,JA,JU (by simpa[bD.cells] using hj)]
  rfl
 | c :: r,i+1,j,h,hj=>by
  have e:aT (c :: r)=c.cells++aT r:=rfl;have b:c.cells.length=2:=rfl;rw[e,JV (by rw[b];omega),b,show (i+1)*2+j-2=i*2+j by omega,jU r i j (by simpa using h) hj]
  rfl
theorem ku{l:List bD}(h:w.ownsRow base t 2 v n (aT l)):∃a b,v= .slice a l.length b/\nK w t a l:=by
 have e:n=l.length:=by have:=h.1;rw[h_] at this;omega
 subst e;rcases h.2 with⟨rfl,c⟩|⟨g,b,f,rfl,q,k,r,_,_,_⟩
 ·exact⟨none,0,by rw[c],.inl (Kn c)⟩
 ·refine⟨_,b,rfl,.inr ⟨g,f,_,rfl,k,fun i m j u d=>?_⟩⟩;have p:j<2:=by have:=(Je.1 d).1;simpa[bD.cells] using this
  have:=h.cells (g:=g) rfl (i*2+j) u (by rw[jU l i j m p];exact d);rw[JL,JA] at this;exact this
theorem iF(s:Xq)(a:KG)(b:Nat)(c:KG)(d:Nat):∀u∈s.cells a b c d,u.oneCell'=true:=by
 intro u e;have:=Xq.one s a b c d;rw[Array.all_eq_true_iff_forall_mem] at this;exact this u (by simpa using e)
theorem Xj.sameKind(h:Xj rb (rb+1) w w')(d:Rd w rb a cap bs p):ak 90 w w':=by
 intro c i u j e b;obtain⟨k,f,_⟩:=d.row;have l:c≠rb:=by
  rintro rfl;rw[f] at b;simp only[JI,Obj.cells.injEq] at b;exact e b.2.1.symm
 rw[h.block c (aN b) (by omega)];exact b
theorem Xj.cell{a c:Nat}(h:Xj a c w w'){b o:Nat}(e:b<w.heap.size)(f:b<a\/c<=b):w'.cell? ⟨b,o,none⟩=w.cell? ⟨b,o,none⟩:=Jl (w:=w) (h.block b e f)
theorem au.but{a c b:Nat}(h:au w b t n)(k:Xj a c w w')(e:b<a\/c<=b):au w' b t n:=h.block (k.block b h.lt e)
variable {x : Int}
theorem mD(h: -1000<=x/\x<=1000):In64 x:=by unfold In64;omega
def bD.Tiny(c:bD):Prop:=c.text.size<=300/\ -1000<=c.goto/\c.goto<=1000
structure Xq.TinyN (m:Nat) (s:Xq):Prop where
 asks:s.asks.length<=m
 dF:∀x∈s.asks,x.size<=300
 on: -1000<=s.on/\s.on<=1000
 cases:s.cases.length<=m
 di:∀c∈s.cases,c.Tiny
 els:In64 s.els
 fall: -1000<=s.fall/\s.fall<=1000
 give:s.give.size<=300
variable {s : Xq}
theorem Xq.TinyN.fits{m:Nat}(h:s.TinyN m)(d:m<=1000):s.Fits:=by
 have:=h.asks;have:=h.cases;have:=h.on;have:=h.fall;have:=h.give;refine⟨?_,fun x b=>?_, ?_, ?_,fun c a=>⟨?_, ?_⟩, ?_, ?_, ?_⟩
 all_goals first | exact h.els | (unfold maxLen;omega) | (unfold In64;omega) | skip
 ·have:=h.dF x b;unfold maxLen;omega
 ·have:=(h.di c a).1;unfold maxLen;omega
 ·have:=(h.di c a).2;unfold In64;omega
abbrev Xq.Tiny (s:Xq):Prop:=Xq.TinyN 20 s
theorem Xq.TinyN.mono{m:Nat}(h:s.TinyN m)(b:m<=n):s.TinyN n:=⟨Jb h.asks b,h.dF,h.on,Jb h.cases b,h.di,h.els,h.fall,h.give⟩
structure df (w:KH) (sb:Nat) (va vc:KI) (s:Xq):Prop where
 row:au w sb 83 8
 c0:w.cell? ⟨sb,0,none⟩=some va
 c1:w.cell? ⟨sb,1,none⟩=some (.int .i64 s.on)
 c2:w.cell? ⟨sb,2,none⟩=some vc
 c3:w.cell? ⟨sb,3,none⟩=some (.int .i64 s.els)
 c4:w.cell? ⟨sb,4,none⟩=some (.int .i64 s.fall)
 c5:w.cell? ⟨sb,5,none⟩=some (.bool s.fin)
 c6:w.cell? ⟨sb,6,none⟩=some (.bool s.bad)
 c7:w.cell? ⟨sb,7,none⟩=some (.string s.give)
variable {sb : Nat} {va vc : KI}
theorem df.block(h:df w sb va vc s)(k:w'.heap[sb]? =w.heap[sb]?):df w' sb va vc s:=by
 have b:∀o,w'.cell? ⟨sb,o,none⟩=w.cell? ⟨sb,o,none⟩:=fun o=>Jl (w:=w) k
 exact⟨h.row.block k,(b _).trans h.c0,(b _).trans h.c1,(b _).trans h.c2,(b _).trans h.c3,(b _).trans h.c4,(b _).trans h.c5,(b _).trans h.c6,(b _).trans h.c7⟩
theorem df.kept(h:df w sb va vc s)(k:K_ w w'):df w' sb va vc s:=h.block (k.block sb h.row.lt)
theorem df.cell(h:df w sb va vc s){o:Nat}(b:o<8):(∃v,w.cell? ⟨sb,o,none⟩=some v)/\w.frozen? ⟨sb,o,none⟩=false:=h.row.row.at b
theorem df.made(w:KH)(els fall:Int):df (w.alloc (.cells #[.slice none 0 0,.int .i64 0,.slice none 0 0,.int .i64 els,.int .i64 fall,.bool false,.bool false,.string ⟨#[]⟩] 83)) w.heap.size (.slice none 0 0) (.slice none 0 0) ⟨[],0,[],els,fall,false,false,⟨#[]⟩⟩:=by
 have d:=X_ w #[.slice none 0 0,.int .i64 0,.slice none 0 0,.int .i64 els,.int .i64 fall,.bool false,.bool false,.string ⟨#[]⟩] 83;have a:∀j v,(#[.slice none 0 0,.int .i64 0,.slice none 0 0,.int .i64 els,.int .i64 fall,.bool false,.bool false,.string ⟨#[]⟩]:Array KI).toList[j]? =some v->(w.alloc (.cells #[.slice none 0 0,.int .i64 0,.slice none 0 0,.int .i64 els,.int .i64 fall,.bool false,.bool false,.string ⟨#[]⟩] 83)).cell? ⟨w.heap.size,j,none⟩=some v:=fun j v e=>by
  have:=d j v e;rw[JA] at this;exact this
 exact⟨au.made w _ _,a 0 _ rfl,a 1 _ rfl,a 2 _ rfl,a 3 _ rfl,a 4 _ rfl,a 5 _ rfl,a 6 _ rfl,a 7 _ rfl⟩
theorem df.on(h:df w sb va vc s)(x:Int):df (w.setCell ⟨sb,1,none⟩ (.int .i64 x)) sb va vc {s with on:=x}:=
 ⟨h.row.set _,(Xk (by omega) _).trans h.c0,aS h.row.row (by omega) _,(Xk (by omega) _).trans h.c2,(Xk (by omega) _).trans h.c3,(Xk (by omega) _).trans h.c4,(Xk (by omega) _).trans h.c5,(Xk (by omega) _).trans h.c6,(Xk (by omega) _).trans h.c7⟩
theorem df.els(h:df w sb va vc s)(x:Int):df (w.setCell ⟨sb,3,none⟩ (.int .i64 x)) sb va vc {s with els:=x}:=
 ⟨h.row.set _,(Xk (by omega) _).trans h.c0,(Xk (by omega) _).trans h.c1,(Xk (by omega) _).trans h.c2,aS h.row.row (by omega) _,(Xk (by omega) _).trans h.c4,(Xk (by omega) _).trans h.c5,(Xk (by omega) _).trans h.c6,(Xk (by omega) _).trans h.c7⟩
theorem df.fall(h:df w sb va vc s)(x:Int):df (w.setCell ⟨sb,4,none⟩ (.int .i64 x)) sb va vc {s with fall:=x}:=
 ⟨h.row.set _,(Xk (by omega) _).trans h.c0,(Xk (by omega) _).trans h.c1,(Xk (by omega) _).trans h.c2,(Xk (by omega) _).trans h.c3,aS h.row.row (by omega) _,(Xk (by omega) _).trans h.c5,(Xk (by omega) _).trans h.c6,(Xk (by omega) _).trans h.c7⟩
theorem df.fin(h:df w sb va vc s)(x:Bool):df (w.setCell ⟨sb,5,none⟩ (.bool x)) sb va vc {s with fin:=x}:=
 ⟨h.row.set _,(Xk (by omega) _).trans h.c0,(Xk (by omega) _).trans h.c1,(Xk (by omega) _).trans h.c2,(Xk (by omega) _).trans h.c3,(Xk (by omega) _).trans h.c4,aS h.row.row (by omega) _,(Xk (by omega) _).trans h.c6,(Xk (by omega) _).trans h.c7⟩
theorem df.bad(h:df w sb va vc s)(x:Bool):df (w.setCell ⟨sb,6,none⟩ (.bool x)) sb va vc {s with bad:=x}:=
 ⟨h.row.set _,(Xk (by omega) _).trans h.c0,(Xk (by omega) _).trans h.c1,(Xk (by omega) _).trans h.c2,(Xk (by omega) _).trans h.c3,(Xk (by omega) _).trans h.c4,(Xk (by omega) _).trans h.c5,aS h.row.row (by omega) _,(Xk (by omega) _).trans h.c7⟩
theorem df.give(h:df w sb va vc s)(x:KC):df (w.setCell ⟨sb,7,none⟩ (.string x)) sb va vc {s with give:=x}:=
 ⟨h.row.set _,(Xk (by omega) _).trans h.c0,(Xk (by omega) _).trans h.c1,(Xk (by omega) _).trans h.c2,(Xk (by omega) _).trans h.c3,(Xk (by omega) _).trans h.c4,(Xk (by omega) _).trans h.c5,(Xk (by omega) _).trans h.c6,aS h.row.row (by omega) _⟩
theorem df.asks(h:df w sb va vc s)(v:KI)(l:List KC):df (w.setCell ⟨sb,0,none⟩ v) sb v vc {s with asks:=l}:=
 ⟨h.row.set _,aS h.row.row (by omega) _,(Xk (by omega) _).trans h.c1,(Xk (by omega) _).trans h.c2,(Xk (by omega) _).trans h.c3,(Xk (by omega) _).trans h.c4,(Xk (by omega) _).trans h.c5,(Xk (by omega) _).trans h.c6,(Xk (by omega) _).trans h.c7⟩
theorem df.cases(h:df w sb va vc s)(v:KI)(l:List bD):df (w.setCell ⟨sb,2,none⟩ v) sb va v {s with cases:=l}:=
 ⟨h.row.set _,(Xk (by omega) _).trans h.c0,(Xk (by omega) _).trans h.c1,aS h.row.row (by omega) _,(Xk (by omega) _).trans h.c3,(Xk (by omega) _).trans h.c4,(Xk (by omega) _).trans h.c5,(Xk (by omega) _).trans h.c6,(Xk (by omega) _).trans h.c7⟩
theorem df.same(h:df w sb va vc s)(k:ak t w w')(c:83≠t):df w' sb va vc s:=by
 obtain⟨d,b,_⟩:=h.row;exact h.block ((k sb d _ _ c b).trans b.symm)
structure fK (m:Nat) (W wr:KH) (rb sb:Nat) (a:KG) (cap:Nat) (bs:List UInt8) (p:Nat) (va vc:KI) (s:Xq):Prop where
 rd:Rd wr rb a cap bs p
 rd0:∃p0,Rd W rb a cap bs p0
 sbl:W.heap.size<=sb
 kb:Xj rb (rb+1) W wr
 box:df wr sb va vc s
 asks:wr.ownsRow W.heap.size 9 1 va s.asks.length (s.asks.map Value.string)
 cases:wr.ownsRow W.heap.size 177 2 vc s.cases.length (aT s.cases)
 tiny:s.TinyN m
variable {mN : Nat} {W wr : KH}
theorem fK.rbl(h:fK mN W wr rb sb a cap bs p va vc s):rb<W.heap.size:=let ⟨_,h0⟩:=h.rd0;h0.row.lt
theorem fK.drawn{c:Nat}(h:fK mN W wr rb sb a cap bs p va vc s)(e:Rd w' rb a cap bs c)(k:Xj rb (rb+1) wr w'):fK mN W w' rb sb a cap bs c va vc s:=by
 have d:=k.sameKind h.rd;have:=h.rbl;have:=h.sbl;exact⟨e,h.rd0,h.sbl,h.kb.trans k,h.box.block (k.block sb h.box.row.lt (by omega)),aH h.asks d (by decide),aH h.cases d (by decide),h.tiny⟩
theorem fK.kept(h:fK mN W wr rb sb a cap bs p va vc s)(k:K_ wr w'):fK mN W w' rb sb a cap bs p va vc s:=h.drawn (h.rd.kept k) (.aC k)
theorem Rd.below{p0:Nat}(h:Rd w rb a cap bs p)(i:Rd W rb a cap bs p0)(k:Below W.heap.size w w')(_hz:W.heap.size<=w.heap.size):Rd w' rb a cap bs p:=by
 have c:∀b o,b<W.heap.size->w'.cell? ⟨b,o,none⟩=w.cell? ⟨b,o,none⟩:=fun b o d=>Jl (w:=w) (k.block b d)
 have e:=i.row.lt;have r:=k.size;refine⟨h.row.block (k.block _ e),(c _ _ e).trans h.c0,(c _ _ e).trans h.c1,fun j l=>?_⟩;obtain⟨b,o,m,n,_,q⟩:=h.bytes j l;obtain⟨s,t,f,_,d,_⟩:=i.bytes j l;rw[m] at f;simp only[JI,Kv,and_true] at f;obtain⟨rfl,rfl⟩:=f;exact⟨b,o,m,n,by omega,by rw[c _ _ d];exact q⟩
theorem fK.field{b:Xq}(h:fK mN W wr rb sb a cap bs p va vc s){o:Nat}(e:df (wr.setCell ⟨sb,o,none⟩ v) sb va vc b)(f:b.asks=s.asks)(i:b.cases=s.cases)(j:b.TinyN mN):fK mN W (wr.setCell ⟨sb,o,none⟩ v) rb sb a cap bs p va vc b:=by
 have c:=h.box.row.same (o:=o) v;have d:Below W.heap.size wr (wr.setCell ⟨sb,o,none⟩ v):=(Below.refl _ _).setCell h.sbl v;obtain⟨l,k⟩:=h.rd0;exact⟨h.rd.below k d h.kb.size,h.rd0,h.sbl,h.kb.below d,e,by rw[f];exact aH h.asks c (by decide),by rw[i];exact aH h.cases c (by decide),j⟩
theorem fK.on(h:fK mN W wr rb sb a cap bs p va vc s)(c: -1000<=x/\x<=1000):fK mN W (wr.setCell ⟨sb,1,none⟩ (.int .i64 x)) rb sb a cap bs p va vc {s with on:=x}:=
 h.field (h.box.on x) rfl rfl ⟨h.tiny.asks,h.tiny.dF,c,h.tiny.cases,h.tiny.di,h.tiny.els,h.tiny.fall,h.tiny.give⟩
theorem fK.els(h:fK mN W wr rb sb a cap bs p va vc s)(c: -1000<=x/\x<=1000):fK mN W (wr.setCell ⟨sb,3,none⟩ (.int .i64 x)) rb sb a cap bs p va vc {s with els:=x}:=
 h.field (h.box.els x) rfl rfl ⟨h.tiny.asks,h.tiny.dF,h.tiny.on,h.tiny.cases,h.tiny.di,mD c,h.tiny.fall,h.tiny.give⟩
theorem fK.fall(h:fK mN W wr rb sb a cap bs p va vc s)(c: -1000<=x/\x<=1000):fK mN W (wr.setCell ⟨sb,4,none⟩ (.int .i64 x)) rb sb a cap bs p va vc {s with fall:=x}:=
 h.field (h.box.fall x) rfl rfl ⟨h.tiny.asks,h.tiny.dF,h.tiny.on,h.tiny.cases,h.tiny.di,h.tiny.els,c,h.tiny.give⟩
variable {w1 w2 : KH}
theorem fK.ry(h:fK mN W wr rb sb a cap bs p va vc s)(c:K_ wr w1)(d:w1.grownBy w2 va.ownBlock):df w2 sb va vc s:=
 (h.kept c).box.same (ak.aK (h.kept c).asks d) (by decide)
theorem fK.yL(h:fK mN W wr rb sb a cap bs p va vc s)(c:K_ wr w1)(d:w1.grownBy w2 vc.ownBlock):df w2 sb va vc s:=
 (h.kept c).box.same (ak.aK (h.kept c).cases d) (by decide)
theorem fK.nT{c:KI}{x:KC}(h:fK mN W wr rb sb a cap bs p va vc s)(l:K_ wr w1)
 (m:w2.ownsRow W.heap.size 9 1 c (s.asks.length+1) (s.asks.map Value.string++ [.string x])) (f:w1.grownBy w2 va.ownBlock) (n:s.asks.length+1<=mN) (q:x.size<=300):fK mN W (w2.setCell ⟨sb,0,none⟩ c) rb sb a cap bs p c vc {s with asks:=s.asks++ [x]}:=by
 have b:=h.kept l;have d:ak 9 w1 w2:=ak.aK b.asks f;have i:=b.box.same d (by decide);have j:=i.row.same (o:=0) c;have k:Below W.heap.size w1 (w2.setCell ⟨sb,0,none⟩ c):=((Below.refl _ _).grown f b.kb.size (fun r d=>(b.asks.lt r d).1)).setCell h.sbl c;obtain⟨v,t⟩:=h.rd0;refine⟨b.rd.below t k b.kb.size,h.rd0,h.sbl,b.kb.below k,i.asks c _, ?_,aH (aH b.cases d (by decide)) j (by decide), ?_⟩
 ·have:=aH m j (by decide);simpa using this
 ·refine⟨by simpa using n,fun y e=>?_,h.tiny.on,h.tiny.cases,h.tiny.di,h.tiny.els,h.tiny.fall,h.tiny.give⟩;simp only[Jh,Jg] at e;rcases e with e | rfl
  ·exact h.tiny.dF y e
  ·exact q
theorem fK.qw{c:KI}{x:bD}(h:fK mN W wr rb sb a cap bs p va vc s)(l:K_ wr w1)
 (m:w2.ownsRow W.heap.size 177 2 c (s.cases.length+1) (aT s.cases++x.cells)) (f:w1.grownBy w2 vc.ownBlock) (n:s.cases.length+1<=mN) (q:x.Tiny):fK mN W (w2.setCell ⟨sb,2,none⟩ c) rb sb a cap bs p va c {s with cases:=s.cases++ [x]}:=by
 have b:=h.kept l;have d:ak 177 w1 w2:=ak.aK b.cases f;have i:=b.box.same d (by decide);have j:=i.row.same (o:=2) c;have k:Below W.heap.size w1 (w2.setCell ⟨sb,2,none⟩ c):=((Below.refl _ _).grown f b.kb.size (fun r d=>(b.cases.lt r d).1)).setCell h.sbl c;obtain⟨v,t⟩:=h.rd0;refine⟨b.rd.below t k b.kb.size,h.rd0,h.sbl,b.kb.below k,i.cases c _,aH (aH b.asks d (by decide)) j (by decide), ?_, ?_⟩
 ·have:=aH m j (by decide);rw[<-sj] at this;simpa using this
 ·refine⟨h.tiny.asks,h.tiny.dF,h.tiny.on,by simpa using n,fun y e=>?_,h.tiny.els,h.tiny.fall,h.tiny.give⟩;simp only[Jh,Jg] at e;rcases e with e | rfl
  ·exact h.tiny.di y e
  ·exact q
def jK(cs:List KI):Prop:=∀n c,Value.slice none n c∈cs->n=0/\c=0
variable {xs : List KI}
theorem jK.append{cs:List KI}(h:jK xs)(k:jK cs):jK (xs++cs):=fun n c e=>by
 rcases Jh.1 e with a|a
 ·exact h n c a
 ·exact k n c a
theorem ik{size:Nat}{e:TypeId}{c m:Nat}(h:w.ownsRow base e size (.slice none n c) m xs):n=0/\c=0:=by
 rcases h.2 with⟨e,_⟩|⟨g,b,d,e,_⟩
 ·simp only[JJ,true_and] at e;exact e
 ·simp at e
theorem jv{a b:KG}{c d:Nat}(h:a=none->s.asks.length=0/\c=0)(h2:b=none->s.cases.length=0/\d=0):jK (s.cells a c b d):=by
 intro n i f;simp only[Xq.cells,JN,JO,or_false,JJ,reduceCtorEq,false_or,or_self] at f;rcases f with⟨e,rfl,rfl⟩|⟨e,rfl,rfl⟩
 ·exact h e.symm
 ·exact h2 e.symm
theorem fK.mU{b c:KG}{d m f:Nat}(h:fK mN W wr rb sb a cap bs p (.slice b n d) (.slice c m f) s)(i:n=s.asks.length)(j:m=s.cases.length):jK (s.cells b d c f):=by
 subst i j;exact jv (fun e=>by subst e;exact ik h.asks) (fun e=>by subst e;exact ik h.cases)
theorem fK.cells(h:fK mN W wr rb sb a cap bs p va vc s):∃b c d e,va= .slice b s.asks.length c/\vc= .slice d s.cases.length e/\ky wr 9 177 (s.cells b c d e) s:=by
 obtain⟨b,c,f,i,j⟩:=bf h.asks;obtain⟨d,e,k,l⟩:=ku h.cases;exact⟨b,c,d,e,f,k,b,c,d,e,rfl,j,l,i⟩
abbrev SSt (W wr:KH) (rb sb:Nat) (a:KG) (cap:Nat) (bs:List UInt8) (p:Nat) (va vc:KI) (s:Xq):Prop:=fK 20 W wr rb sb a cap bs p va vc s
structure jc (m:Nat) (w wr:KH) (rb ab:Nat) (a:KG) (cap:Nat) (bs:List UInt8) (p:Nat) (cost:Int) (v:KI) (L:List Xq) (xs:List KI):Prop where
 rd:Rd wr rb a cap bs p
 rd0:∃p0,Rd w rb a cap bs p0
 abl:w.heap.size<=ab
 kb:Xj rb (rb+1) w wr
 row:au wr ab 77 2
 c0:wr.cell? ⟨ab,0,none⟩=some (.int .i64 cost)
 c1:wr.cell? ⟨ab,1,none⟩=some v
 own:wr.ownsRow w.heap.size 83 8 v L.length xs
 pack:eP wr 9 177 xs L
 tiny:∀s∈L,s.TinyN m
 mU:jK xs
variable {L : List Xq} {ab : Nat}
theorem jc.rbl{cost:Int}(h:jc mN w wr rb ab a cap bs p cost v L xs):rb<w.heap.size:=let ⟨_,h0⟩:=h.rd0;h0.row.lt
theorem jc.drawn{c:Nat}{cost:Int}(h:jc mN w wr rb ab a cap bs p cost v L xs)(f:Rd w' rb a cap bs c)(k:Xj rb (rb+1) wr w'):jc mN w w' rb ab a cap bs c cost v L xs:=by
 have d:=k.sameKind h.rd;have:=h.rbl;have:=h.abl;have e:∀o,w'.cell? ⟨ab,o,none⟩=wr.cell? ⟨ab,o,none⟩:=fun o=>k.cell h.row.lt (by omega)
 exact⟨f,h.rd0,h.abl,h.kb.trans k,h.row.but k (by omega),(e _).trans h.c0,(e _).trans h.c1,aH h.own d (by decide),h.pack.same d (by decide) (by decide),h.tiny,h.mU⟩
theorem jc.kept{cost:Int}(h:jc mN w wr rb ab a cap bs p cost v L xs)(k:K_ wr w'):jc mN w w' rb ab a cap bs p cost v L xs:=h.drawn (h.rd.kept k) (.aC k)
theorem eP.push{a b:TypeId}{cs:List KI}{l:List Xq}(h:eP w a b xs l)(d:ky w a b cs s):eP w a b (xs++cs) (l++ [s]):=by
 have e:(l++ [s]).take l.length=l:=by simp
 have f:(l++ [s]).take (l.length+1)=l++ [s]:=by rw[JC];simp
 have:=eP.snoc (k:=l.length) (l:=l++ [s]) (by simp) (by rw[e];exact h) (cs:=cs) (by simpa[List.getD] using d);rw[f] at this;exact this
theorem jc.fw{cost:Int}(h:jc mN w wr rb ab a cap bs p cost v L xs)(f:K_ wr w1)(i:w1.grownBy w2 v.ownBlock):w2.cell? ⟨ab,1,none⟩=some v/\au w2 ab 77 2:=by
 have b:=h.kept f;have j:ak 83 w1 w2:=ak.aK b.own i;obtain⟨c,d,k⟩:=b.row;have e:=j ab c _ _ (by decide) d;exact⟨by rw[Jl (w:=w1) (e.trans d.symm)];exact b.c1,c,e,k⟩
theorem jc.push{cost:Int}{c:KI}{cs:List KI}(h:jc mN w wr rb ab a cap bs p cost v L xs)(k:K_ wr w1)(q:ky wr 9 177 cs s)(r:s.TinyN mN)(t:jK cs)
 (x:w2.ownsRow w.heap.size 83 8 c (L.length+1) (xs++cs)) (l:w1.grownBy w2 v.ownBlock):jc mN w (w2.setCell ⟨ab,1,none⟩ c) rb ab a cap bs p cost c (L++ [s]) (xs++cs):=by
 have b:=h.kept k;have d:ak 83 w1 w2:=ak.aK b.own l;have j:au w2 ab 77 2:=by
  obtain⟨e,f,y⟩:=b.row;exact⟨e,d ab e _ _ (by decide) f,y⟩
 have A:w2.cell? ⟨ab,0,none⟩=some (.int .i64 cost):=by
  obtain⟨e,f,_⟩:=b.row;rw[Jl (w:=w1) ((d ab e _ _ (by decide) f).trans f.symm)];exact b.c0
 have m:=j.same (o:=1) c;have n:Below w.heap.size w1 (w2.setCell ⟨ab,1,none⟩ c):=((Below.refl _ _).grown l b.kb.size (fun B d=>(b.own.lt B d).1)).setCell h.abl c;obtain⟨E,C⟩:=h.rd0;refine⟨b.rd.below C n b.kb.size,h.rd0,h.abl,b.kb.below n,j.set _,(Xk (by omega) _).trans A,aS j.row (by omega) _, ?_, ?_,fun D i=>?_,h.mU.append t⟩
 ·have:=aH x m (by decide);simpa using this
 ·exact ((b.pack.push (q.same (u:=90) (ak.aC k) (by decide) (by decide))).same d (by decide) (by decide)).same m (by decide) (by decide)
 ·simp only[Jh,Jg] at i;rcases i with i|rfl
  ·exact h.tiny D i
  ·exact r
theorem jc.cost{cost:Int}(h:jc mN w wr rb ab a cap bs p cost v L xs):jc mN w (wr.setCell ⟨ab,0,none⟩ (.int .i64 x)) rb ab a cap bs p x v L xs:=by
 have c:=h.row.same (o:=0) (.int .i64 x);have d:Below w.heap.size wr (wr.setCell ⟨ab,0,none⟩ (.int .i64 x)):=(Below.refl _ _).setCell h.abl _;obtain⟨f,e⟩:=h.rd0;exact⟨h.rd.below e d h.kb.size,h.rd0,h.abl,h.kb.below d,h.row.set _,aS h.row.row (by omega) _,(Xk (by omega) _).trans h.c1,aH h.own c (by decide),(h.pack.same c (by decide) (by decide)),h.tiny,h.mU⟩
abbrev ASt (w wr:KH) (rb ab:Nat) (a:KG) (cap:Nat) (bs:List UInt8) (p:Nat) (cost:Int) (v:KI) (L:List Xq) (xs:List KI):Prop:=jc 20 w wr rb ab a cap bs p cost v L xs
def n_{α:Type}(R:α->α->Prop)(src:List α)(p:α):Prop:=∃c∈src,∃n,gp R n p c
structure sU (R:Nat->Nat->Prop) (src:List Nat) (S:Nat->Bool) (Q:List Nat):Prop where
 sub:∀p,S p=true->n_ R src p
 src:∀c∈src,S c=true
 q:∀p∈Q,S p=true
 nd:Q.Nodup
 don:∀p,S p=true->p∉Q->∀r,R r p->S r=true
structure kY (R:Nat->Nat->Prop) (src:List Nat) (p:Nat) (L:List Nat) (S:Nat->Bool) (Q:List Nat):Prop where
 sub:∀p,S p=true->n_ R src p
 src:∀c∈src,S c=true
 q:∀p∈Q,S p=true
 nd:Q.Nodup
 don:∀r,S r=true->r∉Q->r≠p->∀s,R s r->S s=true
 cur:∀s∈L,S s=true
 pos:S p=true
 out:p∉Q
variable {Q : List Nat} {S : Nat -> Bool}
section
variable {R : Nat -> Nat -> Prop} {src : List Nat}
theorem sU.start(R:Nat->Nat->Prop){b:List Nat}(h:b.Nodup):sU R b (fun p=>decide (p∈b)) b:=
 ⟨fun p a=>⟨p,by simpa using a,0,.here p⟩,fun c e=>by simpa using e,fun p a=>by simpa using a,h,fun p a f=>Ki (by simpa using a) f⟩
theorem sU.take{p:Nat}(h:sU R src S (p :: Q)):kY R src p [] S Q:=by
 have b:=List.nodup_cons.1 h.nd;refine⟨h.sub,h.src,fun r a=>h.q r (Jp _ a),b.2,fun r a c d=>h.don r a ?_,fun s f=>(by cases f),h.q p (by simp),b.1⟩;intro i;rcases JN.1 i with e | e
 ·exact d e
 ·exact c e
theorem kY.old{p s:Nat}{L:List Nat}(h:kY R src p L S Q)(a:S s=true):kY R src p (L++ [s]) S Q:=
 ⟨h.sub,h.src,h.q,h.nd,h.don,fun r b=>by
  rcases Jh.1 b with e|e
  ·exact h.cur r e
  ·rw[Jg] at e;rw[e];exact a,h.pos,h.out⟩
theorem kY.new{p s:Nat}{L:List Nat}(h:kY R src p L S Q)(m:R s p)(i:S s=false):kY R src p (L++ [s]) (fun r=>if r=s then true else S r) (Q++ [s]):=by
 have n:p≠s:=fun e=>by have:=h.pos;rw[e,i] at this;cases this
 have t:s∉Q:=fun e=>by have:=h.q s e;rw[i] at this;cases this
 have d:∀r,S r=true->(if r=s then true else S r)=true:=fun r b=>by split <;> simp[b]
 refine⟨fun r b=>?_,fun c f=>d c (h.src c f),fun r b=>?_, ?_,fun r b j v x w=>?_,fun r b=>?_,d p h.pos, ?_⟩
 ·by_cases e:r=s
  ·subst e;obtain⟨c,f,y,A⟩:=h.sub p h.pos;exact⟨c,f,y+1,.step m A⟩
  ·rw[Kh e] at b;exact h.sub r b
 ·rcases Jh.1 b with g|g
  ·exact d r (h.q r g)
  ·rw[Jg] at g;simp[g]
 ·rw[List.nodup_append];exact⟨h.nd,by simp,fun a k C l e=>by rw[Jg] at l;rw[e,l] at k;exact t k⟩
 ·have B:r≠s:=fun e=>j (by rw[e];simp)
  rw[Kh B] at b;exact d x (h.don r b (fun g=>j (Jh.2 (.inl g))) v x w)
 ·rcases Jh.1 b with g|g
  ·exact d r (h.cur r g)
  ·rw[Jg] at g;simp[g]
 ·intro g;rcases Jh.1 g with g|g
  ·exact h.out g
  ·exact n (Jg.1 g)
theorem kY.ends{p:Nat}{L:List Nat}(h:kY R src p L S Q)(b:∀s,R s p->s∈L):sU R src S Q:=
 ⟨h.sub,h.src,h.q,h.nd,fun r c d s a=>by
  by_cases e:r=p
  ·rw[e] at a;exact h.cur s (b s a)
  ·exact h.don r c d e s a⟩
theorem sU.whole(h:sU R src S [])(p:Nat):S p=true↔n_ R src p:=by
 refine⟨h.sub p, ?_⟩;rintro⟨c,d,n,a⟩
 induction n generalizing p with
 | zero=>rw[a.zero];exact h.src c d
 | succ n ih=>
  obtain⟨b,e,f⟩:=a.first
  exact h.don b (ih b f) (by simp) p e
end
