import Derived.Test.YtbmhchdegdjfkaaGreatDoorKBBehind
import Derived.Test.YtbmhchdegdjfkaaGreatDoorKCLead
set_option maxRecDepth 100000
set_option maxHeartbeats 25600000
namespace Go.Proofs.YtbmhchdegdjfkaaGreatDoor
open Go.RowKit Go.Proofs.Tryz
theorem Tryz.Db(w:LP):(zeroValue 26).run prog w= .ok (.slice none 0 0) w:=by kernel_rfl
structure lH (w:LP) (base mo M:Nat) (g:LK->LQ) (ol:LK->List LK):Prop where
 map:∃N D,N<=M/\w.ownsMap prog 9 asIs mo N D/\(∀s:LK,s.size<=maxLen->D.atKey (dw s) (.held (.slice none 0 0))= .held (g s))/\∀s:LK,Maps.has D (dw s)=true↔ol s≠[]
 row:∀s,w.ownsRow base 9 1 (g s) (ol s).length ((ol s).map Value.string)
 sep:∀s s',s≠s'->∀x,(g s).ownBlock=some x->(g s').ownBlock≠some x
 low:base<=mo
section
variable {w w1 w' : LP} {base mo M : Nat} {g : LK -> LQ} {ol : LK -> List LK}
theorem lH.look(h:lH w base mo M g ol){s:LK}(b:s.size<=maxLen):(Instr.lookup 58 (.map (some mo)) (.string s) false).run prog w= .ok (g s) w:=by
 obtain⟨N,D,_,c,d⟩:=h.map;obtain⟨v,j,e,a⟩:=c.lookup Tryz.keyed underlying58 (Tryz.Db w) (zd:= .held (.slice none 0 0)) (zp:=[]) rfl (WideMaps.keyOf_string_mk underlying9 b);have f:=d.1 s b;unfold asIs at a;simp only[KT,Prod.mk.injEq] at a;have i:(DataW.held v:DataW LQ)= .held (g s):=a.1.trans f;cases i;exact e
theorem lH.but{S:Nat->Prop}(h:lH w base mo M g ol)(k:But S w w')(a:¬S mo)(h2:∀s b,(g s).ownBlock=some b->¬S b):lH w' base mo M g ol:=by
 obtain⟨N,D,c,d,e⟩:=h.map;exact⟨⟨N,D,c,il d k a,e⟩,fun s=>k.owns (h.row s) (h2 s),h.sep,h.low⟩
theorem lH.kept(h:lH w base mo M g ol)(k:K_ w w'):lH w' base mo M g ol:=
 h.but (S:=fun _=>False) (But.aF k) id (fun _ _ _=>id)
theorem lH.qa(h:lH w base mo M g ol){s:LK}(b:s.size<=maxLen)(f:w.grownBy w1 (g s).ownBlock):(Instr.lookup 58 (.map (some mo)) (.string s) false).run prog w1= .ok (g s) w1:=by
 obtain⟨N,D,_,c,i⟩:=h.map;have j:w1.ownsMap prog 9 asIs mo N D:=il (S:=fun d=>(g s).ownBlock=some d) c (But.aI f (fun d e=>e)) (fun e=>gL c (Yz (h.row s) e) rfl);obtain⟨v,m,k,a⟩:=j.lookup Tryz.keyed underlying58 (Tryz.Db w1) (zd:= .held (.slice none 0 0)) (zp:=[]) rfl (WideMaps.keyOf_string_mk underlying9 b);have e:=i.1 s b;unfold asIs at a;simp only[KT,Prod.mk.injEq] at a;have l:(DataW.held v:DataW LQ)= .held (g s):=a.1.trans e;cases l;exact k
theorem lH.put(h:lH w base mo M g ol){s:LK}(H:s.size<=maxLen){x:LK}{f:LQ}(v:w1.ownsRow base 9 1 f ((ol s).length+1) ((ol s).map Value.string++ [.string x]))(I:w.grownBy w1 (g s).ownBlock)(A:∀b,f.ownBlock=some b->(g s).ownBlock=some b\/w.heap.size<=b)(S:M<=1000000):
  ∃w2,(Instr.mapUpdate 58 (.map (some mo)) (.string s) f).run prog w1= .ok () w2/\lH w2 base mo (M+1) (fun n=>if n=s then f else g n) (fun n=>if n=s then ol s++ [x] else ol n)/\But (fun b=>(g s).ownBlock=some b\/b=mo) w w2:=by
 obtain⟨N,J,T,l,B⟩:=h.map;have C:But (fun b=>(g s).ownBlock=some b) w w1:=But.aI I (fun b e=>e);have D:=il l C (fun e=>gL l (Yz (h.row s) e) rfl);obtain⟨w2,K,L,E⟩:=D.update Tryz.keyed underlying58 (by unfold maxLen;omega) (WideMaps.keyOf_string_mk underlying9 H) (d:= .held f) (ps:=[]) rfl;have F:But (fun b=>(g s).ownBlock=some b\/b=mo) w w2:=(C.mono (fun b _ e=>.inl e)).trans (But.aI E (fun b e=>.inr (Lf e).symm));have O:But (fun b=>b=mo) w1 w2:=But.aI E (fun b e=>(Lf e).symm);have P:∀{b:Nat} {t:TypeId},df w1 b t->¬b=mo:=fun Q e=>gL D Q e
 have G:Maps.IsMap J:=by obtain⟨U,V,_,_,_,rfl⟩:=l;exact⟨_,rfl⟩
 refine⟨w2,K,⟨⟨N+1,_,by omega,L,fun n R=>?_,fun n=>?_⟩,fun n=>?_,fun n m r y i a=>?_,h.low⟩,F⟩
 ·by_cases e:n=s
  ·rw[Lt e,e];exact Maps.atKey_put_same (k:=dw s) G (by show WideAt.IsKeyLit (.string _);exact trivial) _ _
  ·rw[Lu e,<-B.1 n R];exact Maps.atKey_put_other (jD e) _ _
 ·by_cases e:n=s
  ·rw[Lt e,e];exact⟨fun _=>by simp,fun _=>Maps.has_put_same (k:=dw s) G (by show WideAt.IsKeyLit (.string _);exact trivial) (.held f)⟩
  ·rw[Lu e,<-B.2 n];exact Eq.to_iff (congrArg (· =true) (Maps.has_put_other (jD e) _))
 ·by_cases e:n=s
  ·simp only[Lt e];have p:(ol s++ [x]).length= (ol s).length+1:=by simp
   have c:(ol s++ [x]).map Value.string= (ol s).map Value.string++ [.string x]:=by simp
   rw[p,c];exact O.owns v (fun b e=>P (Yz v e))
  ·simp only[Lu e];refine F.owns (h.row n) (fun b p c=>?_);rcases c with c | c
   ·exact h.sep n s e b p c
   ·exact gL l (Yz (h.row n) p) c
 ·by_cases e:n=s
  ·rw[Lt e] at i;rw[Lu (fun j=>r (e.trans j.symm))] at a;rcases A y i with q | q
   ·exact h.sep s m (fun j=>r (e.trans j)) y q a
   ·have:=((h.row m).lt y a).2;omega
  ·rw[Lu e] at i;by_cases j:m=s
   ·rw[Lt j] at a;rcases A y a with q|q
    ·exact h.sep n s e y i q
    ·have:=((h.row n).lt y i).2;omega
   ·rw[Lu j] at a;exact h.sep n m r y i a
theorem lH.made{base:Nat}(b:base<=w.heap.size):lH (w.alloc (.map #[] 0)) base w.heap.size 0 (fun _=>.slice none 0 0) (fun _=>[]):=
 ⟨⟨0,.map [],JP _,World.ownsMap_made w prog 9 asIs,fun s _=>rfl,fun s=>by simp[Maps.has]⟩,fun s=>Ld _ _ _ _,fun s d _ x h=>(by cases h),b⟩
end
section
variable {B : Nat} {Kf Kc : Nat -> Prop} {W0 : LP} {Kq : List Qq} {wz W W' : LP} {bb : Nat} {a : LM} {cap : Nat} {rd : LM} {rn rc : Nat} {mb mx : Nat} {ts0 ts : List Zx} {d0 d : LM} {dc : Nat} {f : LK -> LQ} {ws : LK -> List Nat}
theorem InB.fO(h:InB B Kf Kc (Gv ts0) W0 Kq wz W bb a cap rd rn rc mb mx ts d dc f ws){i:Nat}(b:i<ts0.length):∃(j:Nat) (t:Zx),ts[j]? =some t/\t.tb=yY ts0 i/\t.r.name= (Cm ts0).getD i ByteArray.empty:=by
 obtain⟨t,c,e,k⟩:=h.bm.oth.has (ts0[i].tb,ts0[i].r.name) (Ku.2 ⟨ts0[i],J_ b,rfl⟩);obtain⟨j,l⟩:=List.getElem?_of_mem c;exact⟨j,t,l,by rw[e];simp[yY,List.getD,b],by rw[k];simp[Cm,List.getD,b]⟩
theorem InB.row(j:InB B Kf Kc (Gv ts0) W0 Kq wz W bb a cap rd rn rc mb mx ts d dc f ws){base k:Nat}(b:W0.ownsRow base 103 1 (.slice d0 ts0.length k) ts0.length (ts0.map Zx.ptr))(l:∀g,d0=some ⟨g,0,none⟩->Kf g){i:Nat}(c:i<ts0.length):∃g,d0=some ⟨g,0,none⟩/\W.cell? ⟨g,i,none⟩=some (.pointer (some ⟨yY ts0 i,0,none⟩)):=by
 rcases b.2 with⟨e,_⟩|⟨g,p,q,e,_⟩
 ·exfalso
  simp only[KX] at e;omega
 ·simp only[KX] at e;obtain⟨rfl,_,rfl⟩:=e;refine⟨g,rfl, ?_⟩;have h:=b.cells (g:=g) rfl i (ts0[i]).ptr (by simp[c]);have m:W.cell? ⟨g,i,none⟩=W0.cell? ⟨g,i,none⟩:=Ke (w:=W0) (j.same g (l g rfl));rw[m];have n:((⟨g,0,none⟩:Addr).add i)= ⟨g,i,none⟩:=by simp[Addr.add];omega
  rw[n] at h;rw[h];simp[Zx.ptr,yY,List.getD,c]
theorem InB.sees(h:InB B Kf Kc (Gv ts0) W0 Kq wz W bb a cap rd rn rc mb mx ts d dc f ws)(v:BS Kq ts ws){base w:Nat}(x:W0.ownsRow base 103 1 (.slice d0 ts0.length w) ts0.length (ts0.map Zx.ptr))(y:∀g,d0=some ⟨g,0,none⟩->Kf g){i:Nat}(n:i<ts0.length):
  (Dx d0 (yY ts0) i W/\eD (Q_ Kq) (Qj (Qk ts)) ((Cm ts0).getD i ByteArray.empty))\/(FT d0 (yY ts0) i W/\¬eD (Q_ Kq) (Qj (Qk ts)) ((Cm ts0).getD i ByteArray.empty)):=by
 obtain⟨g,e,p⟩:=h.row x y n;obtain⟨I,t,A,C,D⟩:=h.fO n;have k:t∈ts:=Kg A;have q:=h.bm.fO t k;have b:W.cell? ⟨t.tb,1,none⟩=some (.bool t.r.over):=q.rng 1 _ rfl;have c:W.cell? ⟨t.tb,9,none⟩=some (.int .i64 (t.op:Int)):=q.rng 9 _ rfl;have l:Qj (Qk ts) t.r.name=some t.r:=bI h.bm.asc (Le k);rw[C] at b c;rw[D] at l;have r:=v.can k;by_cases j:bZ (Q_ Kq) (Qj (Qk ts)) t.r
 ·obtain⟨E,F⟩:=r.1 j;rw[E] at b;rw[F] at c;exact .inl ⟨⟨g,e,p,b,c⟩,⟨t.r,l,j⟩⟩
 ·refine .inr ⟨⟨g,e,p, ?_⟩,fun ⟨J,s,G⟩=>?_⟩
  ·cases m:t.r.over with
   | true=>left;rw[b,m]
   | false=>
    right
    refine⟨by rw[b,m],t.op,fun H=>j (r.2 ⟨m,H⟩),c⟩
  ·rw[l] at s;cases s;exact j G
def ApI(B:Nat)(Kf Kc:Nat->Prop)(W0:LP)(Kq:List Qq)(wz:LP)(bb:Nat)(a:LM)(cap:Nat)(rd:LM)(rn rc:Nat)(mb:Nat)(ts0:List Zx)(Gl σ0:Env)(c:Nat)(i:Nat)(W:LP):Prop:=
 ∃(mx:Nat) (ts:List Zx) (d:LM) (dc:Nat) (f:LK->LQ) (ws:LK->List Nat) (b:Bool),
  InB B Kf Kc (Gv ts0) W0 Kq wz W bb a cap rd rn rc mb mx ts d dc f ws/\BS Kq ts ws/\mY Kq Gl σ0 (Qj (Qk ts0)) (Cm ts0) (Qj (Qk ts)) i b/\mx+6*rV Kq ts<=9000/\W.cell? ⟨c,0,none⟩=some (.bool b)/\W.frozen? ⟨c,0,none⟩=false
theorem ApI.calm{x y:Env}{c i:Nat}(w:Kc c):Calm B (ApI B Kf Kc W0 Kq wz bb a cap rd rn rc mb ts0 x y c i):=by
 constructor
 ·rintro W o E ⟨e,f,h,j,k,l,b,d,n,p,q,r,s⟩;have t:c<W.heap.size:=d.bm.oth.lt c (.inr w);exact⟨e,f,h,j,k,l,b,d.kept ((K_.refl W).alloc o),n,p,q,(((K_.refl W).alloc o).cell t).trans r,(((K_.refl W).alloc o).rules.2 c 0 t).trans s⟩
 ·rintro W F o v A C D ⟨e,f,h,j,k,l,b,d,n,p,q,r,s⟩;have t:=d.lt c (.inr w);exact⟨e,f,h,j,k,l,b,d.calm v A C D,n,p,q,(ko v (by omega)).trans r,(vJ v (by omega)).trans s⟩
end
open Go.RowKit Go.Shelf
attribute [local go_sem] Oper.semAt_some
section
variable {Kq : List Qq} {wz w w' : LP} {bb : Nat} {a : LM} {cap : Nat} {rd : LM} {rn rc : Nat} {mb mx : Nat} {ts : List Zx} {d : LM} {dc : Nat} {f : LK -> LQ} {ws : LK -> List Nat}
def JC(Kx:Nat->Prop)(Kq:List Qq)(wz w:LP)(bb:Nat)(a:LM)(cap:Nat)(rd:LM)(rn rc:Nat)(mb:Nat)(Gl σ0:Env)(ts0:List Zx)(e:Ending)(w':LP):Prop:=
 ∃(mx:Nat) (ts:List Zx) (d:LM) (dc:Nat) (f:LK->LQ) (ws:LK->List Nat) (b:Bool),e= .returned (.bool b)/\BM (bX.no wz) Kq wz w' bb a cap rd rn rc mb mx ts d dc f ws/\BS Kq ts ws/\mx+6*rV Kq ts<=9000/\(∃k,bO (Behind (W:=Q_ Kq) dz Gl) (doX (Q_ Kq)) σ0 (Qj (Qk ts)) k)/\(b=false->AtEnd (Behind (W:=Q_ Kq) dz Gl) (Qj (Qk ts)))/\(b=true->rV Kq ts<rV Kq ts0)/\∀k,Kx k->w'.heap[k]? =w.heap[k]?/\uI w' bb mb ts f k
theorem zt(hB:BM (bX.no wz) Kq wz w bb a cap rd rn rc mb mx ts d dc f ws)(hS:BS Kq ts ws)(f0:bT (Q_ Kq))(f1:∀y∈Kq,y.Fits)(c5:Kq.length<=60)(f2:fE Kq)(hN:bN wz a Kq)(f3:fT wz)
  (q:LM) (x:Nat) (c:List Qz) (f4:c.length<=1048576) (hA:cO c) (hR:bD wz q c) (σ0:Env) (f5:∃k,bO (Behind (W:=Q_ Kq) dz (Qj c)) (doX (Q_ Kq)) σ0 (Qj (Qk ts)) k) (f6:mx+6*rV Kq ts<=9000) (Kx:Nat->Prop) (b0:∀k,Kx k->uI w bb mb ts f k):
  Calls prog 60 #[.pointer (some ⟨bb,0,none⟩),.agg #[.slice q c.length x,.func (.func 58) #[] #[]]] w fun e w'=>JC Kx Kq wz w bb a cap rd rn rc mb (Qj c) σ0 ts e w':=by
 have⟨G,HS⟩:=aH hB hS;clear hB hS;refine (callsIn_wide (n:=9)).1 ?_;refine callsIn_of_wp_marks func60 rfl trivial ?_ rfl;simp only[ntmps60,List.size_toArray,KY,List.length_nil,Nat.reduceAdd,Nat.reduceSub,Array.replicate_succ,Array.replicate_zero,List.push_toArray,List.append_toArray,List.nil_append,List.cons_append]
 gi_wp2
 obtain⟨h,N⟩:∃h,((w.alloc (.cells #[.pointer (some ⟨bb,0,none⟩)] 54)).alloc (.cells #[.slice q c.length x,.func (.func 58) #[] #[]] 98)).alloc (.cells #[.bool false] 4)=h:=⟨_,rfl⟩;rw[N];have K0:K_ w h:=by rw[<-N];exact ((ag _ _).alloc _).alloc _
 have z0:h.heap.size=w.heap.size+1+1+1:=by rw[<-N];simp
 have q0:=(Je (w:=w) (v:= .pointer (some ⟨bb,0,none⟩)) (t:=54) (w1:=h) (by rw[<-N];exact (ag _ _).alloc _)).1;have c6:=Ik (w:=w.alloc (.cells #[.pointer (some ⟨bb,0,none⟩)] 54)) (v0:= .slice q c.length x) (v1:= .func (.func 58) #[] #[]) (t:=98) (w1:=h) (by rw[<-N];exact ag _ _);have c7:=Je (w:=(w.alloc (.cells #[.pointer (some ⟨bb,0,none⟩)] 54)).alloc (.cells #[.slice q c.length x,.func (.func 58) #[] #[]] 98)) (v:= .bool false) (t:=4) (w1:=h) (by rw[<-N];exact K_.refl _);simp only[KR] at c6 c7;obtain⟨q1,q2⟩:=c6;obtain⟨q3,q4,q5⟩:=c7;have Z:=G.o.kept K0;have i3:=G.o.len c5;have i4:=G.o.kw.size;obtain⟨A,a0⟩:∃A:Nat->Prop,A=fun k=>k=w.heap.size\/k=w.heap.size+1\/d=some ⟨k,0,none⟩\/Kx k:=⟨_,rfl⟩
 obtain⟨Kc,b1⟩:∃Kc:Nat->Prop,Kc=fun k=>k=w.heap.size+1+1:=⟨_,rfl⟩
 have f7:A w.heap.size:=by rw[a0];exact .inl rfl
 have c8:A (w.heap.size+1):=by rw[a0];exact .inr (.inl rfl)
 have c9:∀g,d=some ⟨g,0,none⟩->A g:=fun g e=>by rw[a0];exact .inr (.inr (.inl e))
 have d0:∀k,Kx k->A k:=fun k e=>by rw[a0];exact .inr (.inr (.inr e))
 have a5:Kc (w.heap.size+1+1):=by rw[b1]
 have f8:¬A (w.heap.size+1+1):=by
  rw[a0];rintro (e|e|e|e)
  ·omega
  ·omega
  ·have:=(G.o.apart e).1;omega
  ·have:=(b0 _ e).1;omega
 have d1:Hid (InB h.heap.size A Kc (Gv ts) h Kq wz h bb a cap rd rn rc mb mx ts d dc f ws):=InB.start Z (fun k B=>by
   have far:w.heap.size<=k->k<h.heap.size->k<h.heap.size/\k≠bb/\k≠mb/\(∀t∈ts,k≠t.tb/\k∉t.own)/\∀s,(f s).ownBlock≠some k:=fun l m=>⟨m,G.o.far l⟩
   rw[a0,b1] at B;rcases B with (e|e|e|e) | e
   ·exact far (by omega) (by omega)
   ·exact far (by omega) (by omega)
   ·exact Z.apart e
   ·have l:=b0 k e;exact⟨by have:=l.1;omega,l.2⟩
   ·exact far (by omega) (by omega))
  (fun k B=>by rw[b1] at B;rw[B];exact⟨by omega,_,q5,by decide⟩)
  (fun p O=>by obtain⟨t,P,rfl⟩:=Ku.1 O;exact⟨t,P,rfl,rfl⟩)
 have b2:=Z.items;have i5:=G.o.row.lt;have d2:=Z.c3;have f9:=Kz Z;clear Z;refine BI (Bg bb d ts.length dc (yY ts) (by omega)) rfl (enters_of func103 (by kernel_rfl) rfl) (Ij (by omega)) d2 (fun _=>rfl)
  (ApI h.heap.size A Kc h Kq wz bb a cap rd rn rc mb ts (Qj c) σ0 (w.heap.size+1+1))
  (fun _ _=>False) (fun a1=>ApI.calm a5) (fun _=>vH _) ⟨mx,ts,d,dc,f,ws,false,d1.o,HS.o,mY.start f5,f6,q3,q4⟩
  (fun a1=>{tmps:= #[.pointer (some ⟨bb,0,none⟩),.agg #[.slice q c.length x,.func (.func 58) #[] #[]],.pointer (some ⟨w.heap.size,0,none⟩),.pointer (some ⟨w.heap.size+1,0,none⟩),.bool false,.pointer (some ⟨w.heap.size+1+1,0,none⟩),.pointer (some ⟨yY ts a1,0,none⟩),undef,undef,.pointer (some ⟨bb,0,none⟩),.func (.func 103) #[.pointer (some ⟨bb,0,none⟩)] #[],.pointer (some ⟨yY ts a1,0,none⟩),undef,undef,undef,undef,undef,undef,undef,undef,undef,undef,undef,undef,undef,undef,undef,undef,undef,undef,undef,undef,undef,undef,undef,undef],defers:=[]})
  ?assign (fun a1=>DT (fun g e=>by have:=(G.o.apart e).1;omega)) ?step ?done ?stop
 case assign=>
  intro a6 a1 W i6 hK
  gi_wp2
  exact hK
 case stop=>
  intro g0 i7 W _ Q _;exact Q.elim
 case done=>
  rintro g0 W hD ⟨C,n,R,S,T,U,H,i,r,I,J,g5,g6⟩ d3;have K:=Kz (i.calm (.deferred none) hD d3 rfl);have⟨a2,V⟩:=aH r I;clear i r I
  gi_wp2
  refine⟨by simp,.inl ⟨_,_,rfl,run_takeDeferred d3, ?_⟩⟩;refine⟨_,results_tmp rfl _ _ _,C,n,R,S,T,U,H,rfl,K.o.bm.no,a2.o,J,V.o.led,fun e=>?_,fun e=>?_,fun k B=>⟨(K.o.same k (d0 k B)).trans (K0.block k (b0 k B).1),K.o.bm.oth.apart (.inl (d0 k B))⟩⟩
  ·subst e;have X:=V.o;have g1:ts.length= (Cm ts).length:=by simp[Cm]
   rw[g1] at X;refine X.GX (fun i8 b3 L=>?_);obtain⟨g2,g3⟩:=bF L;obtain⟨t,P,rfl⟩:=Ku.1 g2;exact Ku.2 ⟨t,P,g3⟩
  ·exact V.o.yes e
 case step=>
  rintro a1 W hi ⟨C,n,R,S,T,U,H,i,r,I,J,g5,g6⟩;rcases i.sees r b2 c9 hi with⟨hv,L⟩|⟨hn,L⟩;rotate_left
  ·exact .inr ⟨hn,C,n,R,S,T,U,H,i,r,I.skip (fun Q=>L Q.1),J,g5,g6⟩
  refine .inl ⟨hv, ?_⟩;clear L hv g6 g5 J I r i H U T S R n C;clear W;rintro a6 W hv ⟨C,n,R,S,T,U,H,i,r,I,J,g5,g6⟩ hz;rcases i.sees r b2 c9 hi with⟨_,L⟩|⟨hn,_⟩;rotate_left
  ·exact (Fy hv hn).elim
  obtain⟨j,t,hj,d4,e2⟩:=i.fO hi;have P:t∈n:=Kg hj;have hT:=i.bm.fO t P;have g4:=hT.row.lt;have b4:Qj (Qk n) t.r.name=some t.r:=bI i.bm.asc (Le P);have d5:bZ (Q_ Kq) (Qj (Qk n)) t.r:=by
   obtain⟨b3,l,m⟩:=L;rw[<-e2,b4] at l;cases l;exact m
  have t0:W.cell? ⟨t.tb,0,none⟩=some (.string t.r.name):=hT.rng 0 _ rfl;have t5:W.cell? ⟨t.tb,5,none⟩=some (.int .i64 t.r.Zj):=hT.rng 5 _ rfl;rw[<-d4];have p0:W.cell? ⟨w.heap.size,0,none⟩=some (.pointer (some ⟨bb,0,none⟩)):=(Ke (w:=h) (i.same _ f7)).trans q0;have p1:W.cell? ⟨w.heap.size+1,0,none⟩=some (.slice q c.length x):=(Ke (w:=h) (i.same _ c8)).trans q1;have p2:W.cell? ⟨w.heap.size+1,1,none⟩=some (.func (.func 58) #[] #[]):=(Ke (w:=h) (i.same _ c8)).trans q2;have⟨K,a2,V,HJ,d6⟩:=jb i r I hj d5;have⟨a7,d7⟩:=aH b4 e2;have d8:=hR.kept i.bm.kw;clear i r I hj d5 b4 e2 hT P L hv q0 q1 q2 q3 q4 q5 b2 d1 G HS f9 d2 N d4;have hd:1<=7:=by omega
  have i9:prog.follows .mixedOrders=true:=by kernel_rfl
  gi_wp2
  rename_i Q1 K1 hK1
  have d9:∀(w2:LP) (p:Nat) (D:Bool),K_ W w2->p<=c.length->(if D then p<c.length/\Qj c t.r.name=some (c.getD p Qz.zero) else Qj c t.r.name=none)->K1 {tmps:= #[.pointer (some ⟨bb,0,none⟩),.agg #[.slice q c.length x,.func (.func 58) #[] #[]],.pointer (some ⟨w.heap.size,0,none⟩),.pointer (some ⟨w.heap.size+1,0,none⟩),.bool false,.pointer (some ⟨w.heap.size+1+1,0,none⟩),.pointer (some ⟨t.tb,0,none⟩),.int .i64 (p:Int),.bool D,.pointer (some ⟨bb,0,none⟩),.func (.func 103) #[.pointer (some ⟨bb,0,none⟩)] #[],.pointer (some ⟨t.tb,0,none⟩),.tuple #[.int .i64 (p:Int),.bool D],.agg #[.slice q c.length x,.func (.func 58) #[] #[]],.pointer (some ⟨t.tb,0,none⟩),.pointer (some ⟨t.tb,0,none⟩),.pointer (some ⟨t.tb,0,none⟩),.pointer (some ⟨t.tb,0,none⟩),.string t.r.name,.tuple #[.int .i64 (p:Int),.bool D],.int .i64 (p:Int),.bool D,undef,undef,undef,undef,undef,undef,undef,undef,undef,undef,undef,undef,undef,undef],defers:=[]} w2:=by
   intro w2 p D E O Y;apply hK1;have y1:w.heap.size<W.heap.size:=by omega
   have y2:w.heap.size+1<W.heap.size:=by omega
   have y3:w.heap.size+1+1<W.heap.size:=by omega
   have r0:=(E.cell (o:=0) y1).trans p0;have r1:=(E.cell (o:=0) y2).trans p1;have r2:=(E.cell (o:=1) y2).trans p2;have r5:=(E.cell (o:=5) g4).trans t5;have s2:=E.size;have g7:t.tb<w2.heap.size:=by omega
   have⟨a3,HP,b5,b6,Hz⟩:=jb E O g5 g6 z0;clear p0 p1 p2 t0 t5 E O g5 g6 hK1 z0;cases D with
   | false=>
    have b7:=Kz Y;clear Y
    gi_wp2
    refine⟨trivial, ?_⟩
    gi_wp2
    refine⟨lI a3.o _,C,n,R,S,T,U,H,K.o.kept a3.o,a2.o,V.o.skip (fun Q=>?_),J,(a3.o.cell y3).trans b5.o,(a3.o.rules.2 _ _ y3).trans b6.o⟩;obtain⟨_,b3,g,_,m,_⟩:=Q;rw[<-d7.o] at m;have X:=b7.o;simp only[Bool.false_eq_true,if_false] at X;rw[X] at m;cases m
   | true=>
    simp only[if_true] at Y;obtain⟨g8,e0⟩:=Y;obtain⟨b,o,xa,xc,g9,j0,M,j1,_⟩:=(d8.kept a3.o) p g8;subst g9;generalize c.getD p Qz.zero=e1 at *;have e3:=Kz e0;have e4:=M 0 _ rfl;have c1:=M 1 _ rfl;have c2:=M 2 _ rfl;have c3:=M 3 _ rfl;have c4:=M 4 _ rfl;have h0:=M 5 _ rfl;have h1:=M 6 _ rfl;simp only[La] at e4;clear M e0
    gi_wp2_with fail
    refine⟨trivial,(CallsIn.inRound a6 (callsIn_wide.2 (CS w2 t.tb t.r e1 xa xc g7 r5))).mono ?_⟩;rintro e w3 ⟨b8,k3⟩;have F:=Kz (a3.o.trans k3);have v0:=(k3.cell (o:=0) (by omega)).trans r0;clear e4 c1 c2 c3 c4 h0 h1 r0 r1 r2 r5;rcases b8.cases with⟨rfl,a4⟩|⟨rfl,a4⟩
    ·have a8:Hid (Behind (W:=Q_ Kq) dz (Qj c) (Qj (Qk n)) t.r.name):=⟨⟨t.r,a7.o,d6.o⟩,t.r,e1,a7.o,e3.o,a4⟩;clear a4 b8
     gi_wp2_with fail
     refine⟨trivial,(CallsIn.inRound a6 (callsIn_wide.2 (zS (K.o.kept F.o).told a2.o HJ.o d6.o f0 f1 c5 f2 hN (by omega) f3))).mono ?_⟩;rintro e w4 ⟨rfl,e5,h2,h3,h4,h5,e6,e7,b9⟩;obtain⟨e8,e9,a9⟩:=(K.o.kept F.o).did e6;have hw:=a2.o.good.wf;have h6:=(oK hw a8.o.1 (Kq.map (·.name))).2 (qK (hw _ _ a7.o).web);have h7:C+6+6*rV Kq e5<=9000:=by
      unfold rV at J⊢;rw[b9];omega
     have c0:=V.o.did hw a8.o;rw[<-b9] at c0;have u0:w4.cell? ⟨w.heap.size+1+1,0,none⟩=some (.bool H):=(Ke (w:=w3) (a9 _ a5)).trans ((F.o.cell y3).trans b5.o);have u1:w4.frozen? ⟨w.heap.size+1+1,0,none⟩=false:=(World.frozen?_of_block (w:=w3) (a9 _ a5)).trans ((F.o.rules.2 _ _ y3).trans b6.o);have⟨h8,h9,i0,i1,j2⟩:=jb e8 e7 c0 e9 a9;clear e6 b9 e8 e7 c0 e9 a9 h6 v0 k3
     gi_wp2
     refine⟨((lI F.o _).trans i1.o).trans ((KeepsOthers.setCell _ _ _).from _),C+6,e5,h2,h3,h4,h5,true,h8.o.store (p:=⟨w.heap.size+1+1,0,none⟩) a5 f8 _,h9.o,i0.o,h7,Ll _ _ _ u0, ?_⟩;rw[World.frozen?_setCell];exact u1
    ·have a8:=Kz a4;clear a4 b8 k3
     gi_wp2
     refine⟨lI F.o _,C,n,R,S,T,U,H,K.o.kept F.o,a2.o,V.o.skip (fun Q=>?_),J,(F.o.cell y3).trans b5.o,(F.o.rules.2 _ _ y3).trans b6.o⟩;obtain⟨_,b3,g,l,m,X⟩:=Q;rw[<-d7.o] at l m;rw[a7.o] at l;rw[e3.o] at m;cases l;cases m;exact a8.o X
  have i2:=Kz d9;clear d9
  gi_region_with_o (refine⟨trivial, ?_⟩;gi_at_call 104;refine (CallsIn.inRound a6 (callsIn_wide.2 (D_ _ q x c t.r.name f4 hA (d8.kept (aL W))))).mono ?_;rintro e w2 ⟨⟨p,D,rfl,O,Y⟩,E⟩;have HP:=Kz O;have b7:=Kz Y;clear O Y)
  all_goals exact i2.o _ p D ((K_.refl W).drew.trans E) HP.o b7.o
end
theorem uj(w:LP)(a r:LM)(c B:Nat)(l b:List LK)(M:l.length<=1048576)(_hl':b.length<=1048576)(C:Strs w a l)(D:Strs w r b):
  Calls prog 107 #[.slice a l.length c,.slice r b.length B] w fun e w'=>e= .returned (.bool (decide (l=b)))/\K_ w w':=by
 go_enter func107,ntmps107
 by_cases i:l.length=b.length
 ·have E:((l.length:Int) != (b.length:Int))=false:=by simp[i]
  have F:(l.length:Int)= (b.length:Int):=by omega
  go_wp2
  go_loopw [13] (fun m wr=>∃k:Nat,k<=l.length/\m= .int .i64 k/\Hid (∀j,j<k->l.getD j ByteArray.empty=b.getD j ByteArray.empty)/\K_ w wr) (fun m _=>l.length-(intOf m).toNat)
  case atStart=>exact⟨0,JR _,rfl,Kz fun j n=>aT n,K_.refl _⟩
  case round=>
   obtain⟨k,N,rfl,s,d⟩:=hrel;by_cases G:k<l.length
   ·obtain⟨O,o,rfl,P,H⟩:=C.kept d k G;obtain⟨Q,R,rfl,S,I⟩:=D.kept d k (by omega);have T:(k:Int)<(l.length:Int):=by omega
    have U:(k:Int)<(b.length:Int):=by omega
    obtain⟨x,p⟩:=aj (l.getD k ByteArray.empty);obtain⟨y,q⟩:=aj (b.getD k ByteArray.empty);rw[<-p] at H;rw[<-q] at I;have⟨t,v⟩:=aH p q;clear p q;cases f:(x.toList == y.toList)
    ·have J:(x.toList != y.toList)=true:=by rw[bne,f];rfl
     go_upto_region 6 with fail
     go_quiet (fail)
     go_wp2
     go_ret
     have h:¬l=b:=fun e=>by
      have A:=jV f;rw[t.o,v.o,e] at A;exact A rfl
     exact⟨by rw[decide_eq_false h];rfl,d.drewN _⟩
    ·have J:(x.toList != y.toList)=false:=by rw[bne,f];rfl
     go_upto_region 6 with fail
     go_quiet (fail)
     go_wp2
     go_roundw
     case rel=>
      refine⟨k+1,by omega,by go_num,Kz fun j n=>?_,d.drewN _⟩;by_cases e:j=k
      ·rw[e,<-t.o,<-v.o];exact eF f
      ·exact s.o j (by omega)
     case measure=>simp[intOf];omega
   ·go_wp2
    go_ret
    have K:l=b:=pG i fun j n=>s.o j (by omega)
    exact⟨by rw[decide_eq_true K];rfl,d⟩
 ·have E:((l.length:Int) != (b.length:Int))=true:=by simp;omega
  have F:¬(l.length:Int)= (b.length:Int):=by omega
  have h:¬l=b:=fun e=>i (by rw[e])
  have L:=Kz h;clear h;go_wp2
  go_ret
  exact⟨by rw[decide_eq_false L.o];rfl,K_.refl _⟩
theorem yE(w:LP)(tb:Nat)(r r':Qz)(y xa:LM)(I xc:Nat)(J:tb<w.heap.size)(A:w.rangeAt tb 0 (r.cells y I))(hl:r.texts.length<=1048576)(a0:r'.texts.length<=1048576)(S:Strs w y r.texts)(T:Strs w xa r'.texts):
  Calls prog 62 #[.pointer (some ⟨tb,0,none⟩),.agg #[.string r'.name,.bool r'.over,.bool r'.fail,.string r'.text,.int .i64 r'.at',.int .i64 r'.Zj,.slice xa r'.texts.length xc]] w
   fun e w'=>Says e (r=r')/\K_ w w':=by
 obtain⟨L,B,C,M,D,E,N⟩:=r;obtain⟨i,b,c,j,d,f,k⟩:=r';dsimp only at hl a0 S T⊢;have q:K_ w (w.alloc (.cells #[.string i,.bool b,.bool c,.string j,.int .i64 d,.int .i64 f,.slice xa k.length xc] 40)):=ag _ _;have a6:¬tb=w.heap.size:=by omega
 have s:tb<(w.alloc (.cells #[.string i,.bool b,.bool c,.string j,.int .i64 d,.int .i64 f,.slice xa k.length xc] 40)).heap.size:=by simp;omega
 have t:w.heap.size<(w.alloc (.cells #[.string i,.bool b,.bool c,.string j,.int .i64 d,.int .i64 f,.slice xa k.length xc] 40)).heap.size:=by simp
 have c0:(w.alloc (.cells #[.string i,.bool b,.bool c,.string j,.int .i64 d,.int .i64 f,.slice xa k.length xc] 40)).cell? ⟨tb,0,none⟩=some (.string L):=(q.cell J).trans (by have h:=A 0 _ rfl;simpa using h);have d0:(w.alloc (.cells #[.string i,.bool b,.bool c,.string j,.int .i64 d,.int .i64 f,.slice xa k.length xc] 40)).cell? ⟨w.heap.size,0,none⟩=some (.string i):=Xz w #[.string i,.bool b,.bool c,.string j,.int .i64 d,.int .i64 f,.slice xa k.length xc] 40 0 _ rfl;have c1:(w.alloc (.cells #[.string i,.bool b,.bool c,.string j,.int .i64 d,.int .i64 f,.slice xa k.length xc] 40)).cell? ⟨tb,1,none⟩=some (.bool B):=(q.cell J).trans (by have h:=A 1 _ rfl;simpa using h);have d1:(w.alloc (.cells #[.string i,.bool b,.bool c,.string j,.int .i64 d,.int .i64 f,.slice xa k.length xc] 40)).cell? ⟨w.heap.size,1,none⟩=some (.bool b):=Xz w #[.string i,.bool b,.bool c,.string j,.int .i64 d,.int .i64 f,.slice xa k.length xc] 40 1 _ rfl;have c2:(w.alloc (.cells #[.string i,.bool b,.bool c,.string j,.int .i64 d,.int .i64 f,.slice xa k.length xc] 40)).cell? ⟨tb,2,none⟩=some (.bool C):=(q.cell J).trans (by have h:=A 2 _ rfl;simpa using h);have d2:(w.alloc (.cells #[.string i,.bool b,.bool c,.string j,.int .i64 d,.int .i64 f,.slice xa k.length xc] 40)).cell? ⟨w.heap.size,2,none⟩=some (.bool c):=Xz w #[.string i,.bool b,.bool c,.string j,.int .i64 d,.int .i64 f,.slice xa k.length xc] 40 2 _ rfl;have c3:(w.alloc (.cells #[.string i,.bool b,.bool c,.string j,.int .i64 d,.int .i64 f,.slice xa k.length xc] 40)).cell? ⟨tb,3,none⟩=some (.string M):=(q.cell J).trans (by have h:=A 3 _ rfl;simpa using h);have d3:(w.alloc (.cells #[.string i,.bool b,.bool c,.string j,.int .i64 d,.int .i64 f,.slice xa k.length xc] 40)).cell? ⟨w.heap.size,3,none⟩=some (.string j):=Xz w #[.string i,.bool b,.bool c,.string j,.int .i64 d,.int .i64 f,.slice xa k.length xc] 40 3 _ rfl;have c4:(w.alloc (.cells #[.string i,.bool b,.bool c,.string j,.int .i64 d,.int .i64 f,.slice xa k.length xc] 40)).cell? ⟨tb,4,none⟩=some (.int .i64 D):=(q.cell J).trans (by have h:=A 4 _ rfl;simpa using h);have d4:(w.alloc (.cells #[.string i,.bool b,.bool c,.string j,.int .i64 d,.int .i64 f,.slice xa k.length xc] 40)).cell? ⟨w.heap.size,4,none⟩=some (.int .i64 d):=Xz w #[.string i,.bool b,.bool c,.string j,.int .i64 d,.int .i64 f,.slice xa k.length xc] 40 4 _ rfl;have c5:(w.alloc (.cells #[.string i,.bool b,.bool c,.string j,.int .i64 d,.int .i64 f,.slice xa k.length xc] 40)).cell? ⟨tb,5,none⟩=some (.int .i64 E):=(q.cell J).trans (by have h:=A 5 _ rfl;simpa using h);have d5:(w.alloc (.cells #[.string i,.bool b,.bool c,.string j,.int .i64 d,.int .i64 f,.slice xa k.length xc] 40)).cell? ⟨w.heap.size,5,none⟩=some (.int .i64 f):=Xz w #[.string i,.bool b,.bool c,.string j,.int .i64 d,.int .i64 f,.slice xa k.length xc] 40 5 _ rfl;have c6:(w.alloc (.cells #[.string i,.bool b,.bool c,.string j,.int .i64 d,.int .i64 f,.slice xa k.length xc] 40)).cell? ⟨tb,6,none⟩=some (.slice y N.length I):=(q.cell J).trans (by have h:=A 6 _ rfl;simpa using h);have d6:(w.alloc (.cells #[.string i,.bool b,.bool c,.string j,.int .i64 d,.int .i64 f,.slice xa k.length xc] 40)).cell? ⟨w.heap.size,6,none⟩=some (.slice xa k.length xc):=Xz w #[.string i,.bool b,.bool c,.string j,.int .i64 d,.int .i64 f,.slice xa k.length xc] 40 6 _ rfl;clear A;go_enter func62,ntmps62
 go_upto_region 1 with fail
 generalize hW:(w.alloc (.cells #[.string i,.bool b,.bool c,.string j,.int .i64 d,.int .i64 f,.slice xa k.length xc] 40))=a4 at *;clear hW;go_cut [5] from 7 to 34 (fun s5 U=>K_ a4 U/\s5= .bool (decide (B=b/\C=c/\M=j)))
 case first=>
  by_cases m:B=b
  ·have V:(B == b)=true:=by simp[m]
   by_cases p:C=c
   ·have W:(C == c)=true:=by simp[p]
    have⟨F,K⟩:=aH m p;clear m p;cases h3:(M.toList == j.toList)
    ·go_region
     all_goals
      go_wp2
      go_meet
      exact⟨(aL _),by rw[decide_eq_false (fun h=>jV h3 (by rw[h.2.2]))]⟩
    ·go_region
     all_goals
      go_wp2
      go_meet
      exact⟨(aL _),by rw[decide_eq_true ⟨F.o,K.o,eF h3⟩]⟩
   ·have W:(C == c)=false:=by simp[p]
    have⟨F,K⟩:=aH m p;clear m p;go_region
    all_goals
     go_wp2
     go_meet
     exact⟨(aL _),by rw[decide_eq_false (fun h=>K.o h.2.1)]⟩
  ·have V:(B == b)=false:=by simp[m]
   have F:=Kz m;clear m;go_region
   all_goals
    go_wp2
    go_meet
    exact⟨(aL _),by rw[decide_eq_false (fun h=>F.o h.1)]⟩
 case rest=>
  obtain⟨a,rfl⟩:=hcut;generalize hE:decide (B=b/\C=c/\M=j)=sE;have HE:=Kz hE;clear hE;obtain⟨n,rfl⟩:=aj wc;have t0:n.cell? ⟨tb,0,none⟩=some (.string L):=(a.cell s).trans c0;have x0:n.cell? ⟨w.heap.size,0,none⟩=some (.string i):=(a.cell t).trans d0;have t1:n.cell? ⟨tb,1,none⟩=some (.bool B):=(a.cell s).trans c1;have x1:n.cell? ⟨w.heap.size,1,none⟩=some (.bool b):=(a.cell t).trans d1;have t2:n.cell? ⟨tb,2,none⟩=some (.bool C):=(a.cell s).trans c2;have x2:n.cell? ⟨w.heap.size,2,none⟩=some (.bool c):=(a.cell t).trans d2;have t3:n.cell? ⟨tb,3,none⟩=some (.string M):=(a.cell s).trans c3;have x3:n.cell? ⟨w.heap.size,3,none⟩=some (.string j):=(a.cell t).trans d3;have t4:n.cell? ⟨tb,4,none⟩=some (.int .i64 D):=(a.cell s).trans c4;have x4:n.cell? ⟨w.heap.size,4,none⟩=some (.int .i64 d):=(a.cell t).trans d4;have t5:n.cell? ⟨tb,5,none⟩=some (.int .i64 E):=(a.cell s).trans c5;have x5:n.cell? ⟨w.heap.size,5,none⟩=some (.int .i64 f):=(a.cell t).trans d5;have t6:n.cell? ⟨tb,6,none⟩=some (.slice y N.length I):=(a.cell s).trans c6;have x6:n.cell? ⟨w.heap.size,6,none⟩=some (.slice xa k.length xc):=(a.cell t).trans d6;clear c0 c1 c2 c3 c4 c5 c6 d0 d1 d2 d3 d4 d5 d6;have K1:=q.trans a;have v:tb<n.heap.size:=JQ s a.size;have x:w.heap.size<n.heap.size:=JQ t a.size;clear a s t q;go_upto_region 2 with fail
  go_cut [6] from 35 to 52 (fun s6 U=>K_ n U/\s6= .bool (decide (D=d/\E=f)))
  case first=>
   by_cases m:D=d
   ·have V:(D == d)=true:=by simp[m]
    have F:=Kz m;clear m;by_cases p:E=f
    ·have W:(E == f)=true:=by simp[p]
     have K:=Kz p;clear p;go_region
     all_goals
      go_wp2
      go_meet
      exact⟨(aL _),by rw[decide_eq_true ⟨F.o,K.o⟩]⟩
    ·have W:(E == f)=false:=by simp[p]
     have K:=Kz p;clear p;go_region
     all_goals
      go_wp2
      go_meet
      exact⟨(aL _),by rw[decide_eq_false (fun h=>K.o h.2)]⟩
   ·have V:(D == d)=false:=by simp[m]
    have F:=Kz m;clear m;go_region
    all_goals
     go_wp2
     go_meet
     exact⟨(aL _),by rw[decide_eq_false (fun h=>F.o h.1)]⟩
  case rest=>
   obtain⟨a,rfl⟩:=hcut;obtain⟨l,rfl⟩:=aj wc;generalize hP:decide (D=d/\E=f)=sP;have HP:=Kz hP;clear hP;have u0:l.cell? ⟨tb,0,none⟩=some (.string L):=(a.cell v).trans t0;have y0:l.cell? ⟨w.heap.size,0,none⟩=some (.string i):=(a.cell x).trans x0;have u1:l.cell? ⟨tb,1,none⟩=some (.bool B):=(a.cell v).trans t1;have y1:l.cell? ⟨w.heap.size,1,none⟩=some (.bool b):=(a.cell x).trans x1;have u2:l.cell? ⟨tb,2,none⟩=some (.bool C):=(a.cell v).trans t2;have y2:l.cell? ⟨w.heap.size,2,none⟩=some (.bool c):=(a.cell x).trans x2;have u3:l.cell? ⟨tb,3,none⟩=some (.string M):=(a.cell v).trans t3;have y3:l.cell? ⟨w.heap.size,3,none⟩=some (.string j):=(a.cell x).trans x3;have u4:l.cell? ⟨tb,4,none⟩=some (.int .i64 D):=(a.cell v).trans t4;have y4:l.cell? ⟨w.heap.size,4,none⟩=some (.int .i64 d):=(a.cell x).trans x4;have u5:l.cell? ⟨tb,5,none⟩=some (.int .i64 E):=(a.cell v).trans t5;have y5:l.cell? ⟨w.heap.size,5,none⟩=some (.int .i64 f):=(a.cell x).trans x5;have u6:l.cell? ⟨tb,6,none⟩=some (.slice y N.length I):=(a.cell v).trans t6;have y6:l.cell? ⟨w.heap.size,6,none⟩=some (.slice xa k.length xc):=(a.cell x).trans x6;have O:=K1.trans a;have a1:tb<l.heap.size:=JQ v a.size;have a2:w.heap.size<l.heap.size:=JQ x a.size;clear a v x K1 t0 t1 t2 t3 t4 t5 t6 x0 x1 x2 x3 x4 x5 x6;have hT:=S.kept O;have hX:=T.kept O;clear S T;go_upto_region 3 with fail
   cases h0:(L.toList == i.toList)
   ·go_region
    all_goals
     go_wp2
     go_ret
     exact⟨Says.no (by simp[jV h0]),O.drew⟩
   ·have E0:=Kz (eF h0);cases sE
    ·have Q:=of_decide_eq_false HE.o;have X:=Kz Q;clear Q;go_region
     all_goals
      go_wp2
      go_ret
      exact⟨Says.no (fun h=>Lv (by first | exact⟨h.2.1,h.2.2.1,h.2.2.2.1⟩ | (rw[Qz.mk.injEq] at h;exact⟨h.2.1,h.2.2.1,h.2.2.2.1⟩)) X.o),O.drew⟩
    ·cases sP
     ·have Q:=of_decide_eq_false HP.o;have X:=Kz Q;clear Q;go_region
      all_goals
       go_wp2
       go_ret
       exact⟨Says.no (fun h=>Lv (by first | exact⟨h.2.2.2.2.1,h.2.2.2.2.2.1⟩ | (rw[Qz.mk.injEq] at h;exact⟨h.2.2.2.2.1,h.2.2.2.2.2.1⟩)) X.o),O.drew⟩
     ·have a7:True:=trivial;have a3:∀w',K_ l w'->(fun w'=>w'.cell? ⟨tb,0,none⟩=some (.string L)/\w'.cell? ⟨w.heap.size,0,none⟩=some (.string i)/\w'.cell? ⟨tb,6,none⟩=some (.slice y N.length I)/\w'.cell? ⟨w.heap.size,6,none⟩=some (.slice xa k.length xc)) w':=fun w' a=>⟨(a.cell a1).trans u0,(a.cell a2).trans y0,(a.cell a1).trans u6,(a.cell a2).trans y6⟩
      have Y:=Kz a3;clear a3;refine Qx.region (by kernel_rfl) (fun w'=>w'.cell? ⟨tb,0,none⟩=some (.string L)/\w'.cell? ⟨w.heap.size,0,none⟩=some (.string i)/\w'.cell? ⟨tb,6,none⟩=some (.slice y N.length I)/\w'.cell? ⟨w.heap.size,6,none⟩=some (.slice xa k.length xc)) 24 (Y.o _ (aL l)) (fun G=>?_);have P:K_ l l.drew:=aL l;generalize a5:l.drew=wd at G P⊢;clear a5;refine au 0 G ?_;refine au 4 G ?_;refine au 8 G ?_;refine au 12 G ?_;refine au 16 G ?_;refine af 20 G ?_;refine af 21 G ?_;refine ak 22 (fun R H=>?_);go_simp
      go_at_call 107
      refine (uj _ y xa I xc N k hl a0 (hT.kept P) (hX.kept P)).mono ?_;rintro e w1 ⟨rfl,Z⟩;refine ae H (fun _=>Y.o _ (P.trans Z)) ?_;clear H R;refine ah 23 (fun R H=>?_);go_simp
      refine ae H (fun _=>Y.o _ (P.trans Z)) ?_;clear H R;refine ah 24 (fun R H=>?_);go_simp
      refine ae H (fun h=>Lv rfl h) ?_;clear H R;refine aB ?_;go_wp2
      go_ret
      have m:=of_decide_eq_true HE.o;have p:=of_decide_eq_true HP.o;exact⟨zU (by simp[E0.out,m.1,m.2.1,m.2.2,p.1,p.2]),(O.trans P).trans Z⟩
