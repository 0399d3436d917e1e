import Derived.Test.YtbmhchdegdjfkaaGreatDoorKFImpl2
import Derived.Test.YtbmhchdegdjfkaaGreatDoorKCHas
import Derived.Test.YtbmhchdegdjfkaaGreatDoorKShelfS
import Derived.Test.YtbmhchdegdjfkaaGreatDoorKIter
set_option maxRecDepth 100000
set_option maxHeartbeats 25600000
namespace Go.Proofs.YtbmhchdegdjfkaaGreatDoor
open Go.RowKit Go.Proofs.Tryz
theorem CF(w:KH)(a:KG)(p:Nat)(l:List KC)(x:KC)(v:l.length<=1048576)(q:Strs w a l):
  Calls prog 9 #[.slice a l.length p,.string x] w fun e w'=>Says e (x∈l)/\w'=w:=by
 go_enter func9,ntmps9
 go_wp2
 go_loopw [5] (fun i wr=>∃k:Nat,k<=l.length/\i= .int .i64 (k:Int)/\Hid (x∉l.take k)/\wr=w) (fun i _=>l.length-(intOf i).toNat)
 case atStart=>exact⟨0,Ja _,rfl,Kz (by simp),rfl⟩
 case round=>
  obtain⟨k,A,rfl,j,rfl⟩:=hrel;by_cases c:k<l.length
  ·obtain⟨b,o,r,B,s⟩:=q k c;subst r;obtain⟨y,d⟩:=ah (l.getD k ByteArray.empty);rw[<-d] at s;have m:l[k]=y:=by rw[d];simp[List.getD,c]
   have n:=Kz m;have C:(k:Int)<(l.length:Int):=by omega
   clear d m;cases f:(y.toList == x.toList)
   ·go_wp2
    go_roundw
    case rel=>
     refine⟨k+1,by omega,by go_num,Kz (fun h=>?_),trivial⟩;rw[Jf c,n.o] at h;rcases Jh.1 h with h | h
     ·exact j.o h
     ·rw[Jg] at h;rw[h] at f;simp at f
    case measure=>simp[intOf];omega
   ·go_wp2
    go_ret
    exact⟨Says.yes (by rw[<-yu f,<-n.o];exact Ji c),rfl⟩
  ·have D:¬((k:Int)<(l.length:Int)):=by omega
   have t:Hid (x∉l):=by have h:=j.o;rw[JC (by omega)] at h;exact h
   clear c;go_wp2
   go_ret
   exact⟨Says.no t.o,rfl⟩
def Ic(sl:List Q_)(n:KC)(e:Ending):Prop:=
 ∃(r:Q_) (xa:KG) (xc:Nat) (b:Bool),e= .returned (.tuple #[.agg #[.string r.name,.bool r.over,.bool r.fail,.string r.text,.int .i64 r.at',.int .i64 r.Zq,.slice xa r.texts.length xc],.bool b])/\(b=true->Qq sl n=some r)/\(b=false->Qq sl n=none)
theorem Tryz.nR :(prog.info? 40).map (·.size)=some 7:=by kernel_rfl
theorem nX(w:KH)(p:KG)(q r:Nat)(d:KG)(m:Nat)(l:List Q_)(n:KC)(P:l.length<=1048576)(M:bK w d l):
  Calls prog 18 #[.agg #[.slice p q r,.slice d l.length m],.string n] w fun e w'=>Ic l n e/\K_ w w':=by
 obtain⟨c,f⟩:=ah ((w.alloc (.cells #[.slice p q r,.slice d l.length m] 29)).alloc (.cells #[.string ⟨#[]⟩,.bool false,.bool false,.string ⟨#[]⟩,.int .i64 0,.int .i64 0,.slice none 0 0] 40));have H:K_ w c:=by rw[f];exact (ag _ _).alloc _
 have I:Hid (au c (w.heap.size+1) 40 7):=by
  have J:=au.made (w.alloc (.cells #[.slice p q r,.slice d l.length m] 29)) #[.string ⟨#[]⟩,.bool false,.bool false,.string ⟨#[]⟩,.int .i64 0,.int .i64 0,.slice none 0 0] 40;simp only[JG] at J;rw[f];exact J
 have Q:c.cell? ⟨w.heap.size,1,none⟩=some (.slice d l.length m):=by rw[f,K_.cell (w:=w.alloc (.cells #[.slice p q r,.slice d l.length m] 29)) (ag _ _) (by simp)];exact X_ w _ _ 1 _ rfl
 have R:w.heap.size+2<=c.heap.size:=by rw[f];simp
 have S:w.heap.size<c.heap.size:=by omega
 have t:=Kz H;have s:Hid (c.there (w.heap.size+1) 0 7):=I.o.row.there (by omega);have K:Hid ((prog.info? 40).map (·.size)=some 7):=Tryz.nR;have T:=I.o.lt;clear H;go_enter func18,ntmps18
 go_upto_region 1 with fail
 rw[<-f];clear f;go_wp2
 go_loopw [6] (fun v wr=>∃k:Nat,k<=l.length/\v= .int .i64 (k:Int)/\Hid (∀j,j<k->(l.getD j Q_.zero).name≠n)/\wr=c) (fun v _=>l.length-(intOf v).toNat)
 case atStart=>exact⟨0,Ja _,rfl,Kz (fun j L=>by omega),rfl⟩
 case round=>
  obtain⟨k,U,rfl,x,rfl⟩:=hrel;by_cases A:k<l.length
  ·obtain⟨b,o,h,i,rfl,V,a,_,_⟩:=(M.kept t.o) k A;obtain⟨y,B⟩:=ah (l.getD k Q_.zero);rw[<-B] at a;have N:=a 0 _ rfl;have W:=a 1 _ rfl;have X:=a 2 _ rfl;have Y:=a 3 _ rfl;have Z:=a 4 _ rfl;have q5:=a 5 _ rfl;have q6:=a 6 _ rfl;rw[JM] at N;have C:=Kz B;have a0:(k:Int)<(l.length:Int):=by omega
   have D:=Kz (all_oneCell_toArray (cs:=y.cells h i) (by simp[Q_.cells,Value.oneCell']));clear B a;cases E:(y.name.toList == n.toList)
   ·go_wp2
    go_roundw
    case rel=>
     refine⟨k+1,by omega,by go_num,Kz (fun j L=>?_),trivial⟩;by_cases e:j=k
     ·rw[e,<-C.o];intro O;rw[O] at E;simp at E
     ·exact x.o j (by omega)
    case measure=>simp[intOf];omega
   ·have F:Hid (Qq l n=some y):=by
     show _=_;rw[C.o];exact xU A (by rw[<-C.o];exact yu E) x.o
    go_wp2_with (refine wpList_store_mid rfl 40 _ _ rfl (w.heap.size+1) 0 #[.string y.name,.bool y.over,.bool y.fail,.string y.text,.int .i64 y.at',.int .i64 y.Zq,.slice h y.texts.length i] rfl rfl s.o K.o D.o ?_)
    have G:=Jc wr (w.heap.size+1) 0 (y.cells h i) s.o;exact bO (y.cells h i) _ (.bool true) results18 rfl G underlying40 rfl Tryz.nR rfl rfl ⟨⟨y,h,i,true,rfl,fun _=>F.o,fun e=>by cases e⟩,bT (g:=w.heap.size+1) (by omega) (y.cells h i) 0 t.o⟩
  ·have a1:¬((k:Int)<(l.length:Int)):=by omega
   have F:Hid (Qq l n=none):=sV (fun j L=>x.o j (by omega));have D:=Kz (all_oneCell_toArray (cs:=Q_.zero.cells none 0) (by simp[Q_.cells,Value.oneCell']));clear A;go_wp2_with (refine wpList_store_mid rfl 40 _ _ rfl (w.heap.size+1) 0 #[.string ⟨#[]⟩,.bool false,.bool false,.string ⟨#[]⟩,.int .i64 0,.int .i64 0,.slice none 0 0] rfl rfl s.o K.o D.o ?_)
   have G:=Jc wr (w.heap.size+1) 0 (Q_.zero.cells none 0) s.o;exact bO (Q_.zero.cells none 0) _ (.bool false) results18 rfl G underlying40 rfl Tryz.nR rfl rfl ⟨⟨Q_.zero,none,0,false,rfl,(fun e=>by cases e),fun _=>F.o⟩,bT (g:=w.heap.size+1) (by omega) (Q_.zero.cells none 0) 0 t.o⟩
theorem Tryz.Iq(w:KH):(zeroValue 26).run prog w= .ok (.slice none 0 0) w:=by kernel_rfl
section
variable {w w1 w' : KH} {base mo M : Nat} {g : KC -> KI} {ol : KC -> List KC}
end
open Go.RowKit Go.Shelf
attribute [local go_sem] Oper.semAt_some
def FK(B:Nat)(d:KG)(tx:Nat->KC)(i:Nat)(W:KH):Prop:=∃b o,d=some ⟨b,o,none⟩/\b<B/\W.cell? ⟨b,o+i,none⟩=some (.string (tx i))
theorem xR(B a:Nat)(d:KG)(f n:Nat)(b:Nat->KC)(r:n<=1048576):
  Fj prog 68 #[.pointer (some ⟨a,0,none⟩)] (fun i=>#[.string (b i)]) (FK B d b) (fun _ _=>False) n (fun W=>W.cell? ⟨a,0,none⟩=some (.slice d n f)):=by
 intro y J s W t c j;refine callsIn_of_wp func68 rfl trivial ?_ rfl;simp only[ntmps68,List.size_toArray,JK,List.length_nil,Nat.reduceAdd,Nat.reduceSub,Array.replicate_succ,Array.replicate_zero,List.push_toArray,List.append_toArray,List.nil_append,List.cons_append];have k:=Kz c;clear c
 gi_wp2
 gi_loopw [7] (fun x wr=>∃i:Nat,i<=n/\x= .int .i64 i/\J i wr) (fun x _=>n-(intOf x).toNat)
 case atStart=>exact⟨0,Ja _,rfl,j⟩
 case round=>
  obtain⟨i,v,rfl,e⟩:=hrel;by_cases l:i<n
  ·rcases k.o i wr l e with⟨⟨w,o,rfl,_,A⟩,C,D,E,F,G,m⟩|⟨h,_⟩
   ·gi_wp2
    refine m.mono ?_;rintro H I (⟨rfl,p⟩|⟨rfl,q⟩)
    ·gi_wp2
     go_roundw
     case rel=>exact⟨i+1,by omega,by go_num,p⟩
     case measure=>simp[intOf];omega
    ·gi_wp2
     refine bodyPost_ret (results_none rfl _ _ _) rfl ?_;exact⟨⟨_,rfl⟩,.inr q⟩
   ·exact h.elim
  ·gi_wp2
   go_end0
   have:i=n:=by omega
   subst this;exact⟨⟨_,rfl⟩,.inl e⟩
def AqI(w1:KH)(c:Nat)(l:List KC)(i:Nat)(W:KH):Prop:=
 K_ w1 W/\c<W.heap.size/\∃v:KI,W.cell? ⟨c,0,none⟩=some v/\W.frozen? ⟨c,0,none⟩=false/\W.ownsRow (c+1) 9 1 v (l.take i).length ((l.take i).map Value.string)
theorem AqI.calm{w1:KH}{c:Nat}{l:List KC}{i B:Nat}(s:w1.heap.size<=c)(t:c<B):Calm B (AqI w1 c l i):=by
 constructor
 ·rintro W o w ⟨k,a,v,h,j,d⟩;have f:=(K_.refl W).alloc o;exact⟨k.trans f,by rw[JG];omega,v,(f.cell a).trans h,(f.rules.2 c 0 a).trans j,(But.aC (S:=fun _=>False) f).owns d (fun _ _=>id)⟩
 ·rintro W y o m x p q ⟨k,a,v,h,j,d⟩;have n:But (fun b=>b=y) W (W.putObj y m):=⟨rfl,rfl,rfl,by rw[World.putObj_size];exact IZ _,fun b _ e=>World.putObj_heap_other e⟩;refine⟨n.kept k (fun b e=>by rw[e];omega),by rw[World.putObj_size];exact a,v,(jR m (by omega)).trans h,(uG m (by omega)).trans j,n.owns d (fun b r e=>?_)⟩;have:=jP (Y_ d r) (by rw[e];exact p);rw[q] at this;cases this
theorem ru{B:Nat}{v:KI}{c o:Nat}(h:c<B):Calm B (fun W=>W.cell? ⟨c,o,none⟩=some v):=by
 constructor
 ·intro W d i a;obtain⟨j,e,_⟩:=cells_of_cell a;exact (((K_.refl W).alloc d).cell (aN e)).trans a
 ·intro W y d f l m n a;exact (jR f (by omega)).trans a
theorem Bc{B:Nat}{d:KG}{k:Nat->KC}{i C:Nat}(h:B<=C):Calm C (FK B d k i):=by
 constructor
 ·rintro W c l ⟨b,o,rfl,a,f⟩;exact⟨b,o,rfl,a,(ru (I_ a h)).1 W c l f⟩
 ·rintro W y c n p q r ⟨b,o,rfl,a,f⟩;exact⟨b,o,rfl,a,(ru (I_ a h)).2 W y c n p q r f⟩
theorem zF :∃ic,prog.info? 9=some ic/\ic.zero=some (.string ByteArray.empty)/\ic.size=1/\ic.bytes=16:=info_parts Tryz.CS
theorem vL(w:KH)(q:Nat)(d:KG)(a0:Nat)(l:List KC)(hn:l.length<=1048576)(a8:q<w.heap.size)(hc:w.cell? ⟨q,0,none⟩=some (.slice d l.length a0))(hS:Strs w d l):
  Calls prog 109 #[.slice none 0 0,.func (.func 68) #[] #[.pointer (some ⟨q,0,none⟩)]] w fun e w'=>∃v,e= .returned v/\w'.ownsRow w.heap.size 9 1 v l.length (l.map Value.string)/\K_ w w':=by
 refine (callsIn_wide (n:=9)).1 ?_;refine callsIn_of_wp_marks func109 rfl trivial ?_ rfl;simp only[ntmps109,List.size_toArray,JK,List.length_nil,Nat.reduceAdd,Nat.reduceSub,Array.replicate_succ,Array.replicate_zero,List.push_toArray,List.append_toArray,List.nil_append,List.cons_append]
 gi_wp2_with fail
 obtain⟨r,B⟩:∃r,w.alloc (.cells #[.slice none 0 0] 26)=r:=⟨_,rfl⟩;rw[B];have K0:K_ w r:=by rw[<-B];exact ag _ _
 have z0:r.heap.size=w.heap.size+1:=by rw[<-B];simp
 obtain⟨q0,q1,_⟩:=Ia (w:=w) (v:= .slice none 0 0) (t:=26) (w1:=r) (by rw[B];exact K_.refl _);have G:=(K0.cell a8).trans hc;obtain⟨k,T⟩:∃k:Nat->KC,∀i,k i=l.getD i ByteArray.empty:=⟨_,fun _=>rfl⟩;have a9:Hid (∀i W,i<l.length->K_ w W->FK w.heap.size d k i W):=fun i W C a1=>by
  obtain⟨b,o,e,H,b0⟩:=hS i C;exact⟨b,o,e,H,by rw[T];exact (a1.cell H).trans b0⟩
 have b1:=Kz T;clear T;refine zP (xR w.heap.size q d a0 l.length k hn) rfl (enters_of func68 (by kernel_rfl) rfl) (ru (by omega)) G (fun _=>rfl)
  (AqI w w.heap.size l) (fun _ _=>False) (fun i=>AqI.calm (IZ _) (by omega)) (fun _=>uF _)
  ⟨K0,by omega,.slice none 0 0,q0,q1,by rw[List.take_zero];exact JP _ _ _ _⟩
  (fun i=>{tmps:= #[.slice none 0 0,.func (.func 68) #[] #[.pointer (some ⟨q,0,none⟩)],.pointer (some ⟨w.heap.size,0,none⟩),undef,.slice none 0 0,.string (k i),.func (.func 68) #[] #[.pointer (some ⟨q,0,none⟩)],.string (k i),undef,undef,undef,undef,undef],defers:=[]}) ?assign ?calm ?step ?done ?stop
 case assign=>
  intro b2 i W a1 hK
  gi_wp2
  exact hK
 case calm=>exact fun i=>Bc (by omega)
 case stop=>
  intro D c W _ b3 _;exact b3.elim
 case step=>
  rintro i W C ⟨s,x,v,E,I,h⟩;refine .inl ⟨a9.o i W C s, ?_⟩;clear h I E v x s;clear W;rintro b2 W _ ⟨s,x,v,E,I,h⟩ c6;obtain⟨J,K,rfl⟩:=ax h;obtain⟨f,L⟩:=ah (l.take i);have c7:f.length<=1048576:=by rw[L,Jt];omega
  rw[<-L] at h E;obtain⟨j,U⟩:=ah (k i);rw[<-U];have b4:Hid (l.take (i+1)=f++ [j]):=by
   show l.take (i+1)=f++ [j];rw[Jf C,L,U,b1.o];simp[List.getD,C]
  have H3:=Kz h;clear h q0 q1 G B U L;obtain⟨ic,G,b5,b6,b7⟩:=zF;have b8:w.heap.size+1<=W.heap.size:=by omega
  obtain⟨V,y⟩:=ah (W.alloc (.cells #[.string j] 9));have M:K_ W V:=by rw[y];exact ag _ _
  have N:=Kz M;have A:=Kz ((But.aC (S:=fun _=>False) M).owns H3.o (fun _ _=>id));have a2:w.heap.size+1<=V.heap.size:=Jb b8 M.size;have a3:Hid (∀O u,([.string j]:List KI)[O]? =some u->V.cell? ((⟨W.heap.size,0,none⟩:Addr).add O)=some u):=fun O u P=>by rw[JL,y];exact X_ W #[.string j] 9 O u P
  have b9:Hid (∀u∈([.string j]:List KI),u.oneCell'=true):=fun u P=>by simp only[JN,JO,or_false] at P;subst P;rfl
  have c0:Hid (KeepsOthers W V):=by rw[y];exact KeepsOthers.alloc _ _
  rw[y] at A a3 a2;have HV:=Kz y;clear M y
  gi_wp2_with (gi_at_builtin;refine wpListIn_append_own _ rfl (.tmp 8) (.tmp 10) 26 rfl (w.heap.size+1) 9 ic _ 1 16 underlying26 G b5 b6 b7 rfl (by decide) (.slice J f.length K) f.length (f.map Value.string) rfl A.o ⟨W.heap.size,0,none⟩ 1 1 [.string j] rfl rfl a3.o b9.o (by unfold maxLen;omega) (by omega) a2 ?_;intro v' m X Q _;rw[<-HV.o] at Q A;have R:∀b,(Value.slice J f.length K).ownBlock=some b->w.heap.size+1<=b:=fun b e=>(A.o.lt b e).1;have F:But (fun b=>(Value.slice J f.length K).ownBlock=some b) V m:=But.aK Q (fun b e=>e);have Y:w.heap.size<V.heap.size:=I_ x N.o.size;have s9:m.cell? ⟨w.heap.size,0,none⟩=some (.slice J f.length K):=(F.cell Y (fun e=>by have:=R _ e;omega)).trans ((N.o.cell x).trans E);have f9:m.frozen? ⟨w.heap.size,0,none⟩=false:=(World.frozen?_of_block (w:=V) (a:=⟨w.heap.size,0,none⟩) (F.block w.heap.size Y (fun e=>by have:=R _ e;omega))).trans ((N.o.rules.2 _ _ x).trans I);have z9:w.heap.size<m.heap.size:=I_ Y F.size;have c1:=Kz (F.kept (s.trans N.o) (fun b e=>by have:=R b e;omega));have c2:=Kz (c0.o.trans (KeepsOthers.of_grownBy Q (fun b o e ho=>jP (Y_ A.o e) ho)));have c3:=Kz X;obtain⟨a4,a5,rfl⟩:=ax X;clear X Q F R HV A)
  have c4:Hid (KeepsFrom r.heap.size W (m.setCell ⟨w.heap.size,0,none⟩ (.slice a4 (f.length+1) a5))):=(c2.o.trans (KeepsOthers.setCell _ _ _)).from _
  refine⟨c4.o,c1.out.setCell (IZ _) _,by rw[size_setCell];exact z9,_,JZ _ _ _ s9,by rw[World.frozen?_setCell];exact f9, ?_⟩;have HO:m.ownsRow (w.heap.size+1) 9 1 (.slice a4 (f.length+1) a5) (f++ [j]).length ((f++ [j]).map Value.string):=by rw[JH,Km];exact c3.o
  rw[b4.o];exact (But.set (S:=fun b=>b=w.heap.size) (But.aC (K_.refl m)) (p:=⟨w.heap.size,0,none⟩) rfl _).owns HO (fun b e c8=>by have:=(HO.lt b e).1;omega)
 case done=>
  rintro D W hD ⟨s,x,v,E,I,h⟩ a6;rw[JB] at h;have c5:w.heap.size<=D:=by omega
  have Z:But (fun b=>b=D) W (W.putObj D (.deferred none)):=⟨rfl,rfl,rfl,by rw[World.putObj_size];exact IZ _,fun b _ e=>World.putObj_heap_other e⟩;have a7:Hid (K_ w (W.putObj D (.deferred none))/\(W.putObj D (.deferred none)).ownsRow w.heap.size 9 1 v l.length (l.map Value.string)):=by
   refine⟨Z.kept s (fun b e=>by rw[e];exact c5),bJ (Z.owns h (fun b H e=>?_)) (by omega)⟩;have:=jP (Y_ h H) (by rw[e];exact a6);cases this
  clear h Z
  gi_wp2
  exact⟨by simp,.inl ⟨_,_,rfl,run_takeDeferred a6,_,results_tmp rfl _ _ _,v,rfl,a7.o.2,a7.o.1⟩⟩
theorem Ac(w:KH)(a:Nat)(d:KG)(b:Nat)(l:List KC)(f:l.length<=1048576)(h:a<w.heap.size)(i:w.cell? ⟨a,0,none⟩=some (.slice d l.length b))(j:Strs w d l):
  Calls prog 66 #[.func (.func 68) #[] #[.pointer (some ⟨a,0,none⟩)]] w fun e w'=>∃v,e= .returned v/\w'.ownsRow w.heap.size 9 1 v l.length (l.map Value.string)/\K_ w w':=by
 go_enter func66,ntmps66
 go_wp2_with fail
 refine (vL w a d b l f h i j).mono ?_;rintro e w1 ⟨v,rfl,c,k⟩;have m:=Kz c;clear c;go_wp2
 go_ret
 exact⟨v,rfl,m.o,k⟩
theorem Bq(w:KH)(d:KG)(n a:Nat):
  Calls prog 32 #[.slice d n a] w fun e w'=>e= .returned (.func (.func 68) #[] #[.pointer (some ⟨w.heap.size,0,none⟩)])/\w'=w.alloc (.cells #[.slice d n a] 26):=by
 go_enter func32,ntmps32
 go_wp2
 go_ret
 exact⟨rfl,rfl⟩
open Go.RowKit Go.Sort
def sJ(l ns:List KC):Prop:=ns.Perm l/\ns.Pairwise fun a b=>¬bU b a
theorem sJ.asc{l a:List KC}(h:sJ l a)(d:l.Nodup):lH a/\∀s,s∈a↔s∈l:=by
 refine⟨?_,fun s=>h.1.mem_iff⟩;have e:a.Nodup:=h.1.nodup_iff.2 d;unfold lH;exact (h.2.and e).imp fun {f b} c=>by
  rcases iT f b with g|g|g
  ·exact g
  ·exact Ki g c.2
  ·exact Ki g c.1
theorem ut(l:List KC):sJ l (((l.map fun s=>s.data.toList).mergeSort fun x y=>decide (x<=y)).map fun x=>(⟨x.toArray⟩:KC)):=by
 constructor
 ·have h:=(List.mergeSort_perm (l.map fun s=>s.data.toList) (fun x y=>decide (x<=y))).map (fun x:List UInt8=>(⟨x.toArray⟩:KC));rw[List.map_map] at h;have j:((fun x:List UInt8=>(⟨x.toArray⟩:KC)) ∘ fun s:KC=>s.data.toList)=id:=by
   funext s
   simp
  rw[j,List.map_id] at h;exact h
 ·rw[List.pairwise_map];have h:=List.pairwise_mergeSort (le:=fun x y:List UInt8=>decide (x<=y)) (fun a b c d e=>by
   simp only[Ko] at d e⊢;exact List.le_trans d e) (fun a b=>by
   simp only[Bool.or_eq_true,Ko];exact List.le_total a b) (l.map fun s=>s.data.toList)
  refine h.imp fun {a b} f=>?_
  simp only[Ko] at f;unfold bU;rw[bytesLess_eq];simp only[Ko];have i:∀x:List UInt8,(⟨x.toArray⟩:KC).toList=x:=fun x=>by simp[ByteArray.toList_eq]
  rw[i,i];exact List.not_lt.2 f
theorem Dm(l:List KC):(l.map fun s=>s.data.toList).map encStr=l.map Value.string:=by
 rw[List.map_map];apply List.map_congr_left;intro s _;simp[encStr]
theorem Bf(w:KH)(f:Nat)(d:KG)(r:Nat)(l:List KC)(I:l.length<=1048576)(J:f<w.heap.size)(K:w.cell? ⟨f,0,none⟩=some (.slice d l.length r))(L:Strs w d l):
  Calls prog 31 #[.func (.func 68) #[] #[.pointer (some ⟨f,0,none⟩)]] w fun e w'=>∃v ns,e= .returned v/\w'.ownsRow w.heap.size 9 1 v ns.length (ns.map Value.string)/\sJ l ns/\K_ w w':=by
 go_enter func31,ntmps31
 go_wp2_with fail
 refine (Ac w f d r l I J K L).mono ?_;rintro e w1 ⟨v,rfl,h,s⟩;have X:=Kz h;rcases h.2 with⟨rfl,M⟩|⟨g,t,Y,rfl,A,i,N,B,C,D⟩
 ·clear h;go_wp2_with fail
  refine (Tryz.slices_Sort_string_none none 0 w1).mono ?_;rintro e w2 ⟨rfl,b⟩;rw[b];clear b w2;go_wp2
  go_ret
  have O:l=[]:=Jn.1 M;refine⟨_,[],rfl,JP _ _ _ _,by rw[O];exact⟨List.Perm.refl _,List.Pairwise.nil⟩,s⟩
 ·obtain⟨a,j⟩:=ah (l.map fun P=>P.data.toList);have k:a.length=l.length:=by rw[j];simp
  have E:Holds encStr w1 g 0 a.toArray:=holds_of_block i (by rw[k,j,Dm];simpa using D);have F:=Kz (Tryz.slices_Sort_string g 0 t a w1 E (aN i) (by omega));have Q:Hid (∀n c,w1.grownBy (grow (putRow encStr (Sort.ahead w1 n) g 0 (a.mergeSort fun x y=>decide (x<=y)).toArray) c) (some g)/\(grow (putRow encStr (Sort.ahead w1 n) g 0 (a.mergeSort fun x y=>decide (x<=y)).toArray) c).ownsRow w.heap.size 9 1 (.slice (some ⟨g,0,none⟩) a.length t) a.length ((a.mergeSort fun x y=>decide (x<=y)).map encStr)):=fun n c=>⟨grownBy_sorted _,ownsRow_sorted (by simp) A i (by omega) B (by simpa using C)⟩
  rw[k] at F;have⟨R,G⟩:=aD j k;clear h D C B N i E j k;go_wp2_with fail
  refine F.o.mono ?_;rintro e w2 ⟨rfl,n,c,b⟩;obtain⟨p,m⟩:=Q.o n c;rw[<-b] at p m;rw[G.o] at m;have⟨T,U⟩:=aD p m;clear p m b;go_wp2
  go_ret
  have H:=ut l;rw[<-R.o] at H;have V:((a.mergeSort fun x y=>decide (x<=y)).map fun x=>(⟨x.toArray⟩:KC)).length=l.length:=by simp[G.o]
  have W:((a.mergeSort fun x y=>decide (x<=y)).map fun x=>(⟨x.toArray⟩:KC)).map Value.string= (a.mergeSort fun x y=>decide (x<=y)).map encStr:=by rw[List.map_map];rfl
  refine⟨_,_,rfl,by rw[V,W];exact U.o,H, ?_⟩;exact (But.aK (S:=fun q=>q=g) T.o (fun q e=>(JR e).symm)).kept s (fun q e=>by rw[e];exact A)
theorem Br{w:KH}{C N:Nat}{D:DataW KI}(h:w.ownsMap prog 9 asIs C N D){d:List (List UInt8)}(j:d.Perm (strKeys D)):
  ∃nm:List KC,nm.length=d.length/\nm.map Value.string= (d.mergeSort fun x y=>decide (x<=y)).map encStr/\lH nm/\∀s,s∈nm↔Maps.has D (je s)=true:=by
 obtain⟨b,A,E,_⟩:=h.entries Tryz.keyed;obtain⟨F,B,G⟩:=h.keysOf;obtain rfl:b=F:=by rw[A] at B;simpa using B
 subst A;have k:∀p∈b,∃x,p.1= .string x:=fun p j=>by obtain⟨v,H⟩:=G p j;obtain⟨x,_,I,_⟩:=Maps.keyOf_str underlying9 H;exact⟨x,I⟩
 have J:(strKeys (.map b)).Nodup:=by
  refine List.pairwise_map.2 (E.imp_of_mem fun {p K} c L n e=>n ?_);obtain⟨a,f⟩:=k p c;obtain⟨M,O⟩:=k K L;rw[f,O] at e⊢;exact congrArg _ e
 have P:∀x,x∈strKeys (.map b)↔Maps.has (.map b) (.string x)=true:=fun x=>by
  rw[Maps.has_eq,List.any_eq_true];show x∈b.map (fun p=>strOf p.1)↔_;rw[Ju];constructor
  ·rintro⟨p,c,rfl⟩;obtain⟨a,f⟩:=k p c;exact⟨p,c,by rw[f];simp[Lit.sameKey,strOf]⟩
  ·rintro⟨p,c,i⟩;obtain⟨a,f⟩:=k p c;rw[f] at i;exact⟨p,c,by rw[f];simpa[Lit.sameKey,strOf] using i⟩
 obtain⟨l,Q⟩:∃l:List KC,l=d.map fun x=>(⟨x.toArray⟩:KC):=⟨_,rfl⟩
 have q:(l.map fun s=>s.data.toList)=d:=by
  rw[Q,List.map_map];have e:((fun s:KC=>s.data.toList) ∘ fun x:List UInt8=>(⟨x.toArray⟩:KC))=id:=by funext x;simp
  rw[e,List.map_id]
 have i:=ut l;rw[q] at i;have R:l.Nodup:=by
  have m:d.Nodup:=j.nodup_iff.2 J;rw[<-q] at m;exact (List.pairwise_map.1 m).imp fun {a M} n e=>n (by rw[e])
 obtain⟨m,S⟩:=i.asc R;refine⟨_,by simp,by rw[List.map_map];rfl,m,fun s=>?_⟩;rw[S];show s∈l↔Maps.has (.map b) (.string s.data.toList)=true;rw[<-P,<-j.mem_iff,<-q];constructor
 ·intro r;exact JQ r
 ·intro r;obtain⟨t,T,U⟩:=Ju.1 r;have:t=s:=by
   have V:t.data=s.data:=by have:=congrArg List.toArray U;simpa using this
   cases t;cases s;simp_all
  rw[<-this];exact T
structure yE (w:KH) (mo:Nat) (kp:KC->Prop) (ol:KC->List KC):Prop where
 map:∃N D,N<=1000000/\w.ownsMap prog 9 asIs mo N D/\(∀s:KC,s.size<=maxLen->∃a c,D.atKey (je s) (.held (.slice none 0 0))= .held (.slice a (ol s).length c)/\Strs w a (ol s))/\∀s:KC,Maps.has D (je s)=true↔kp s
 sub:∀s,ol s≠[]->kp s
theorem yE.look{w w':KH}{e:Nat}{h:KC->Prop}{b:KC->List KC}(i:yE w e h b)(k:K_ w w'){s:KC}(f:s.size<=maxLen):∃a c,(Instr.lookup 58 (.map (some e)) (.string s) false).run prog w'= .ok (.slice a (b s).length c) w'/\Strs w' a (b s):=by
 obtain⟨N,D,_,j,l,_⟩:=i.map;have m:=kv (S:=fun _=>False) j (But.aC k) id;obtain⟨v,y,p,d⟩:=m.lookup Tryz.keyed underlying58 (Tryz.Iq w') (zd:= .held (.slice none 0 0)) (zp:=[]) rfl (WideMaps.keyOf_string_mk underlying9 f);obtain⟨a,c,q,r⟩:=l s f;refine⟨a,c, ?_,r.kept k⟩;unfold asIs at d;simp only[JI,Prod.mk.injEq] at d;have t:(DataW.held v:DataW KI)= .held (.slice a (b s).length c):=d.1.trans q;cases t;exact p
def BL(k:Nat):Nat:=k*1000000
theorem CX(k:Nat):BL (k+1)=BL k+1000000:=by unfold BL;omega
theorem Cy{k:Nat}(h:k<=60):BL k<=60000000:=by unfold BL;omega
def Ex(kp:KC->Prop)(ol:KC->List KC)(w w':KH)(e:Ending):Prop:=
 ∃(na:KG) (nc:Nat) (nm:List KC) (nb mb M:Nat) (need back:Nat->List Nat),e= .returned (.agg #[.slice na nm.length nc,.slice (some ⟨nb,0,none⟩) nm.length nm.length,.slice (some ⟨mb,0,none⟩) nm.length nm.length])/\lH nm/\(∀s,s∈nm↔kp s)/\xe w' na nm nb mb need back/\Fw (fun x y=>y∈ol x) nm M need back/\M<=60000000/\K_ w w'
structure ObM (u:KH) (ob:Nat) (na:KG) (nc n nb mb:Nat):Prop where
 c0:u.cell? ⟨ob,0,none⟩=some (.slice na n nc)
 c1:u.cell? ⟨ob,1,none⟩=some (.slice (some ⟨nb,0,none⟩) n n)
 c2:u.cell? ⟨ob,2,none⟩=some (.slice (some ⟨mb,0,none⟩) n n)
 ty:bX u ob 68
variable {mb n nb nc ob : Nat} {na : KG} {u : KH}
theorem ObM.lt(h:ObM u ob na nc n nb mb):ob<u.heap.size:=by
 obtain⟨c,f,b⟩:=h.ty;exact aN b
theorem ObM.but{S:Nat->Prop}{b:KH}(h:ObM u ob na nc n nb mb)(k:But S u b)(a:¬S ob):ObM b ob na nc n nb mb:=
 ⟨(k.cell h.lt a).trans h.c0,(k.cell h.lt a).trans h.c1,(k.cell h.lt a).trans h.c2,by
  obtain⟨c,f,d⟩:=h.ty;exact⟨c,f,(k.block _ h.lt a).trans d⟩⟩
theorem ObM.kept{a:KH}(h:ObM u ob na nc n nb mb)(k:K_ u a):ObM a ob na nc n nb mb:=h.but (S:=fun _=>False) (But.aC k) id
def TabJ(w2:KH)(na:KG)(nc n:Nat)(a b:Act)(u:KH):Prop:=
 ∃ob nb mb,b= {a with tmps:=((((((((a.tmps.setIfInBounds 14 (.slice na n nc)).setIfInBounds 15 (.slice na n nc)).setIfInBounds 16 (.int .i64 (n:Int))).setIfInBounds 17 (.slice (some ⟨nb,0,none⟩) n n)).setIfInBounds 18 (.slice na n nc)).setIfInBounds 19 (.int .i64 (n:Int))).setIfInBounds 20 (.slice (some ⟨mb,0,none⟩) n n)).setIfInBounds 21 (.agg #[.slice na n nc,.slice (some ⟨nb,0,none⟩) n n,.slice (some ⟨mb,0,none⟩) n n])).setIfInBounds 4 (.pointer (some ⟨ob,0,none⟩))}/\
  ObM u ob na nc n nb mb/\u.rowIs nb 52 n (fun _=>.slice none 0 0)/\u.rowIs mb 52 n (fun _=>.slice none 0 0)/\nb≠mb/\w2.heap.size<=nb/\w2.heap.size<=mb/\K_ w2 u
theorem oF{b:Nat}{t:TypeId}{v:KI}(h:u.heap[b]? =some (.cells (madeCells #[v] n) t)):u.rowIs b t n (fun _=>v):=by
 obtain⟨c,a,d⟩:=World.rowIs_made u v n t;rw[heap_alloc_new] at a;cases a;exact⟨_,h,d⟩
theorem aY(w2:KH)(a b c:Obj):((((w2.alloc a).alloc b).alloc c).drew).heap[w2.heap.size]? =some a/\((((w2.alloc a).alloc b).alloc c).drew).heap[w2.heap.size+1]? =some b/\((((w2.alloc a).alloc b).alloc c).drew).heap[w2.heap.size+1+1]? =some c/\K_ w2 (((w2.alloc a).alloc b).alloc c).drew:=by
 have e:=heap_alloc_new w2 a;have d:=heap_alloc_new (w2.alloc a) b;have f:=heap_alloc_new ((w2.alloc a).alloc b) c;rw[JG] at d;rw[JG,JG] at f;have h:K_ ((w2.alloc a).alloc b) (((w2.alloc a).alloc b).alloc c).drew:=(ag _ _).drew;have i:K_ (w2.alloc a) (((w2.alloc a).alloc b).alloc c).drew:=((ag _ _).alloc _).drew;exact⟨(i.block _ (aN e)).trans e,(h.block _ (aN d)).trans d,f,(((ag _ _).alloc _).alloc _).drew⟩
theorem jr{w2:KH}(a:u.heap[ob]? =some (.cells #[.slice na n nc,.slice (some ⟨nb,0,none⟩) n n,.slice (some ⟨mb,0,none⟩) n n] 68))(b:u.heap[nb]? =some (.cells (madeCells #[.slice none 0 0] n) 52))(h2:u.heap[mb]? =some (.cells (madeCells #[.slice none 0 0] n) 52))(c:nb≠mb)(d:w2.heap.size<=nb)(e:w2.heap.size<=mb)(k:K_ w2 u):
  ObM u ob na nc n nb mb/\u.rowIs nb 52 n (fun _=>.slice none 0 0)/\u.rowIs mb 52 n (fun _=>.slice none 0 0)/\nb≠mb/\w2.heap.size<=nb/\w2.heap.size<=mb/\K_ w2 u:=
 ⟨⟨by simp[World.cell?,a],by simp[World.cell?,a],by simp[World.cell?,a],⟨_,_,a⟩⟩,oF b,oF h2,c,d,e,k⟩
theorem Tryz.Ep :(prog.info? 68).map (·.size)=some 3:=by kernel_rfl
theorem Tryz.FL :(prog.info? 3).map (fun i=>(i.zero,i.size,i.bytes))=some (some (.int .i64 0),1,8):=by kernel_rfl
theorem Tryz.FR :(prog.info? 52).map (fun i=>(i.zero,i.size,i.bytes))=some (some (.slice none 0 0),1,24):=by kernel_rfl
theorem Ar(w:KH)(mo:Nat)(kp:KC->Prop)(Q:KC->List KC)(all:List KC)(m9:∀s,kp s->s∈all)(n0:all.length<=60)(n1:∀s,kp s->s.size<=20)(n2:∀s,(Q s).length<=1000000)(hL:yE w mo kp Q):
  Calls prog 34 #[.map (some mo)] w fun e w'=>Ex kp Q w w' e:=by
 obtain⟨n3,n4,hN,hM,hf,i2⟩:=hL.map;have n5:=hM.size_le;obtain⟨W0,b0⟩:=ah (w.alloc (.cells #[.slice none 0 0,.slice none 0 0,.slice none 0 0] 68));have k0:K_ w W0:=by rw[b0];exact ag _ _
 have n6:Hid (au W0 w.heap.size 68 3):=by rw[b0];exact au.made w #[.slice none 0 0,.slice none 0 0,.slice none 0 0] 68
 have i3:=kv (S:=fun _=>False) hM (But.aC k0) id;have i4:=Kz (callsIn_wide.1 (Tryz.yI (some mo) W0));have i5:=Kz (callsIn_wide.1 (Tryz.lq mo n3 n4 asIs W0 i3 (by unfold maxLen;omega) (by omega)));have⟨HM,e7,HL⟩:=eB hM i2 hL;clear hM i3 hf i2 hL n5;go_enter func34,ntmps34
 go_upto_region 1 with fail
 rw[<-b0];have p9:w.heap.size+1=W0.heap.size:=by rw[b0];simp
 clear b0;go_wp2_with fail
 refine i4.o.mono ?_;rintro e w1 ⟨rfl,i6⟩;rw[i6];clear i6 w1;go_wp2_with fail
 refine i5.o.mono ?_;rintro e w2 ⟨v,ss,rfl,hp,d0,n7,hb⟩;obtain⟨d,i7,i8,e8,e9⟩:=Br HM.o hp;rw[<-i8,<-i7] at d0;have k2:K_ W0 w2:=K_.trans (ag _ _) hb;obtain⟨na,T,Y,i9⟩:=bi d0;subst Y;have j0:d.length<=60:=by
  refine Jb (List.Nodup.length_le_of_subset ?_ (fun x hx=>m9 x ((e7.o x).1 ((e9 x).1 hx)))) n0;exact e8.imp fun {a b} n8=>dA n8
 have⟨f0,j1,j2,f1⟩:=jh i9 d0 k2 e8;have f2:Hid (∀s,s∈d↔kp s):=fun s=>(e9 s).trans (e7.o s)
 have K2:=k0.trans k2;clear hp d0 n7 hb i7 i8 e9 i9 e8 i4 i5 k2 k0 e7 HM;obtain⟨n,hn⟩:=ah d.length;rw[<-hn] at j0⊢;have b1:=Kz hn;clear hn;have n9:=run_make_row' (P:=prog) 66 52 _ _ underlying66 Tryz.FR rfl .i64 .i64 n (by omega) (by omega);go_upto_region 2 with fail
 refine rH (TabJ w2 na T n) ?_ ?_
 ·go_region
  ·refine⟨rfl,w2.heap.size+1+1,w2.heap.size,w2.heap.size+1, ?_,jr (aY w2 _ _ _).2.2.1 (aY w2 _ _ _).1 (aY w2 _ _ _).2.1 (by omega) (by omega) (by omega) (aY w2 _ _ _).2.2.2⟩;simp only[List.setIfInBounds_toArray,List.set_cons_zero,JS]
  ·refine⟨rfl,w2.heap.size+1,w2.heap.size,w2.heap.size+1+1, ?_,jr (aY w2 _ _ _).2.1 (aY w2 _ _ _).1 (aY w2 _ _ _).2.2.1 (by omega) (by omega) (by omega) (aY w2 _ _ _).2.2.2⟩;simp only[List.setIfInBounds_toArray,List.set_cons_zero,JS]
  ·refine⟨rfl,w2.heap.size+1+1,w2.heap.size+1,w2.heap.size, ?_,jr (aY w2 _ _ _).2.2.1 (aY w2 _ _ _).2.1 (aY w2 _ _ _).1 (by omega) (by omega) (by omega) (aY w2 _ _ _).2.2.2⟩;simp only[List.setIfInBounds_toArray,List.set_cons_zero,JS]
  ·refine⟨rfl,w2.heap.size+1,w2.heap.size+1+1,w2.heap.size, ?_,jr (aY w2 _ _ _).2.1 (aY w2 _ _ _).2.2.1 (aY w2 _ _ _).1 (by omega) (by omega) (by omega) (aY w2 _ _ _).2.2.2⟩;simp only[List.setIfInBounds_toArray,List.set_cons_zero,JS]
  ·refine⟨rfl,w2.heap.size,w2.heap.size+1,w2.heap.size+1+1, ?_,jr (aY w2 _ _ _).1 (aY w2 _ _ _).2.1 (aY w2 _ _ _).2.2.1 (by omega) (by omega) (by omega) (aY w2 _ _ _).2.2.2⟩;simp only[List.setIfInBounds_toArray,List.set_cons_zero,JS]
  ·refine⟨rfl,w2.heap.size,w2.heap.size+1+1,w2.heap.size+1, ?_,jr (aY w2 _ _ _).1 (aY w2 _ _ _).2.2.1 (aY w2 _ _ _).2.1 (by omega) (by omega) (by omega) (aY w2 _ _ _).2.2.2⟩;simp only[List.setIfInBounds_toArray,List.set_cons_zero,JS]
 rintro b u ⟨Z,f,l,rfl,j3,f3,f4,o0,o1,o2,O⟩;clear n9;simp only[List.setIfInBounds_toArray,List.set_cons_zero,JS];have K3:=K2.trans O;have j4:w2.heap.size<=u.heap.size:=O.size;have q0:=Kz (f0.o.kept O);have d1:Hid (mX u u.heap.size n (fun c=>if c=true then f else l) (fun _ _=>.slice none 0 0) (fun _ _=>[])):=by
  refine⟨fun c=>?_,by simpa using o0,fun c p=>JP _ _ _ _,fun c p c' p' _ x h=>(by cases h)⟩;cases c
  ·exact f4
  ·exact f3
 have j5:=Kz j3;have q1:=dX f3;have q2:=dX f4;have j6:Hid (fP (fun x y=>y∈Q x) d 0 [] 0 0 (fun _=>[]) (fun _=>[])):=fP.start _ _ _;have j7:=O;clear f3 f4 j3 O;go_wp2
 go_loopw [24] (fun x wr=>∃(k M:Nat) (g:Bool->Nat->KI) (L:Bool->Nat->List Nat),k<=n/\x= .int .i64 (k:Int)/\M<=BL k/\Hid (mX wr u.heap.size n (fun c=>if c=true then f else l) g L)/\Hid (fP (fun x y=>y∈Q x) d k [] 0 M (L true) (L false))/\Hid (ObM wr Z na T n f l)/\K_ w2 wr/\u.heap.size<=wr.heap.size) (fun x _=>n-(intOf x).toNat)
 case atStart=>exact⟨0,0,_,_,Ja _,rfl,Ja _,d1,j6,j5,j7,IZ _⟩
 case round=>
  clear d1 j6 j5 j7;obtain⟨k,M,g,L,hk,rfl,j8,D,U,R,E,a0⟩:=hrel;by_cases j9:k<n;rotate_left
  ·obtain rfl:=b1.o;have o3:k=d.length:=by omega
   subst o3;obtain⟨q3,q4,q5,o4⟩:=R.o;have b2:=n6.o.kept (j2.o.trans E);obtain⟨⟨_,x0⟩,g0⟩:=b2.row.at (i:=0) (by omega);obtain⟨⟨_,x1⟩,g1⟩:=b2.row.at (i:=1) (by omega);obtain⟨⟨_,x2⟩,g2⟩:=b2.row.at (i:=2) (by omega);have o5:=Kz b2;clear b2 o4;go_wp2_with fail
   have hR:=Jc wr w.heap.size 0 [.slice na d.length T,.slice (some ⟨f,0,none⟩) d.length d.length,.slice (some ⟨l,0,none⟩) d.length d.length] (o5.o.row.there (o:=0) (m:=3) (IZ _));have kf:But (fun b=>b=w.heap.size) wr (wr.setCells w.heap.size 0 [.slice na d.length T,.slice (some ⟨f,0,none⟩) d.length d.length,.slice (some ⟨l,0,none⟩) d.length d.length]):=But.set (S:=fun b=>b=w.heap.size) (But.set (S:=fun b=>b=w.heap.size) (But.set (S:=fun b=>b=w.heap.size) (But.aC (K_.refl wr)) (p:=⟨w.heap.size,0,none⟩) rfl _) (p:=⟨w.heap.size,1,none⟩) rfl _) (p:=⟨w.heap.size,2,none⟩) rfl _;have q6:=j2.o.size;refine Zx [.slice na d.length T,.slice (some ⟨f,0,none⟩) d.length d.length,.slice (some ⟨l,0,none⟩) d.length d.length] _ results34 rfl hR underlying68 rfl Tryz.Ep rfl ⟨na,T,d,f,l,M,L true,L false,rfl,f1.o,f2.o, ?_,U.o.whole,Jb j8 (Cy j0),kf.kept (K2.trans E) (fun b e=>by rw[e];exact IZ _)⟩;have o6:=kf.owns (aj j1.o E) (fun b e F=>by have:=(j1.o.lt b e).1;rw[JG] at this;omega);obtain⟨a9,c9,Y,a7⟩:=bi o6;simp only[JJ,true_and] at Y;rw[<-Y.1] at a7;exact mX.read (D.o.but kf (fun c e=>by cases c <;> simp at e <;> omega) (fun c p b e F=>by have:=((D.o.own c p).lt b e).1;omega)) a7
  have b3:k<d.length:=by have:=b1.o;omega
  obtain⟨rb,ro,e1,o7,k1⟩:=(f0.o.kept E) k b3;subst e1;obtain⟨s,hs⟩:=ah (d.getD k ByteArray.empty);rw[<-hs] at k1;have f5:d[k]=s:=by rw[hs];simp[List.getD,b3]
  have k3:kp s:=(f2.o s).1 (by rw[<-f5];exact Ji b3);have k5:s.size<=maxLen:=by have:=n1 s k3;unfold maxLen;omega
  obtain⟨la,lc,k6,f6⟩:=HL.o.look (K2.trans E) k5;have k7:=Kz f5;have f7:=n2 s;obtain⟨d2,hQ⟩:=ah (Q s);rw[<-hQ] at k6 f6 f7;have⟨HQ,k8⟩:=aD hQ f6;have q7:(k:Int)<(n:Int):=by omega
  clear hs f5 k3 k5 hQ f6;go_wp2_with fail
  refine (Bq wr la d2.length lc).mono ?_;rintro e w3 ⟨rfl,d3⟩;have O:K_ wr w3:=by rw[d3];exact ag _ _
  have b4:w3.cell? ⟨wr.heap.size,0,none⟩=some (.slice la d2.length lc):=by rw[d3];exact X_ wr #[.slice la d2.length lc] 26 0 _ rfl
  have k9:wr.heap.size<w3.heap.size:=by rw[d3];simp
  clear d3 k6 k1;go_wp2_with fail
  refine (Bf w3 wr.heap.size la lc d2 (by omega) k9 b4 (k8.o.kept O)).mono ?_;rintro e w4 ⟨v4,C,rfl,f8,f9,k4⟩;obtain⟨o8,o9,rfl⟩:=ax f8;have q8:C.length<=1000000:=by rw[f9.1.length_eq];exact f7
  have⟨g3,V⟩:=aD f9 f8;have l0:=Kz (D.o.kept (O.trans k4));have l1:=Kz (R.o.kept (O.trans k4));have l2:=Kz (U.o.enter C);have K4:=E.trans (O.trans k4);have l3:u.heap.size<=w4.heap.size:=Jb a0 (O.trans k4).size;have q9:w2.heap.size<=w3.heap.size:=(E.trans O).size;clear f8 f9 b4 k9 D R U O k4 E a0 k8 f7 o7;go_wp2
  go_loopw [35] (fun x wr=>∃(j M:Nat) (g:Bool->Nat->KI) (L:Bool->Nat->List Nat),j<=C.length/\x= .int .i64 (j:Int)/\M<=BL k+j/\Hid (mX wr u.heap.size n (fun c=>if c=true then f else l) g L)/\Hid (fP (fun x y=>y∈Q x) d k C j M (L true) (L false))/\Hid (ObM wr Z (some ⟨rb,ro,none⟩) T n f l)/\Hid (wr.ownsRow w3.heap.size 9 1 (.slice o8 C.length o9) C.length (C.map Value.string))/\K_ w2 wr/\u.heap.size<=wr.heap.size) (fun x _=>C.length-(intOf x).toNat)
  case atStart=>exact⟨0,M,g,L,Ja _,rfl,by omega,l0,l2,l1,V,K4,l3⟩
  case round=>
   clear l0 l2 l1 V K4 l3 j8;obtain⟨j,M,g,L,hj,rfl,r0,D,U,R,V,E,a0⟩:=hrel;by_cases d4:j<C.length;rotate_left
   ·have p0:C.length<=j:=by omega
    have g4:Hid (fP (fun x y=>y∈Q x) d (k+1) [] 0 M (L true) (L false)):=U.o.leave b3 p0 (fun y=>by rw[g3.o.1.mem_iff,HQ.o,k7.o]);go_wp2
    go_roundw
    case rel=>exact⟨k+1,M,g,L,by omega,by go_num,by rw[CX];omega,D,g4,R,E,a0⟩
    case measure=>simp[intOf];omega
   obtain⟨a9,c9,Y,a7⟩:=bi V.o;simp only[JJ,true_and] at Y;rw[<-Y.1] at a7;obtain⟨qb,qo,e1,r1,g5⟩:=a7 j d4;subst e1;obtain⟨s',g6⟩:=ah (C.getD j ByteArray.empty);rw[<-g6] at g5;have l4:C[j]=s':=by rw[g6];simp[List.getD,d4]
   have l5:=Kz l4;have p1:Hid (Calls prog 71 #[.slice (some ⟨rb,ro,none⟩) n T,.string s'] wr fun e w'=>oL d s' e/\w'=wr):=by
    show Calls _ _ _ _ _;rw[b1.o];exact zu wr _ T d s' (by have:=b1.o;omega) f1.o (f0.o.kept E)
   have r2:(j:Int)<(C.length:Int):=by omega
   clear Y a7 g6 l4;go_wp2_with fail
   refine p1.o.mono ?_;rintro e w5 ⟨⟨q,bq,rfl,g7,g8⟩,l6⟩;rw[l6];clear l6 w5;cases bq
   ·have p2:=Kz (g8 rfl);clear g7 g8 g5;have g4:Hid (fP (fun x y=>y∈Q x) d k C (j+1) M (L true) (L false)):=U.o.skip d4 (by rw[l5.o];exact p2.o);go_wp2
    go_roundw
    case rel=>exact⟨j+1,M,g,L,by omega,by go_num,by omega,D,g4,R,V,E,a0⟩
    case measure=>simp[intOf];omega
   obtain⟨l7,l8⟩:=g7 rfl;have l9:q<n:=by have:=b1.o;omega
   have p3:Hid (d[q]=s'):=by show d[q]=s';rw[<-l8];simp[List.getD,l7]
   have m0:Hid (fP (fun x y=>y∈Q x) d k C (j+1) (M+1) (fun p=>if p=k then L true k++ [q] else L true p) (fun p=>if p=q then L false q++ [k] else L false p)):=U.o.put ⟨f1.o,fun x y m1=>(f2.o x).2 (HL.o.sub x (fun e=>by rw[e] at m1;cases m1))⟩ d4 g3.o.2 l7 (by rw[p3.o,l5.o]) b3 (fun y hy=>by rw[g3.o.1.mem_iff,HQ.o] at hy;rw[k7.o];exact hy);have r3:=Cy (show k<=60 by omega);have r4:=(U.o.len k).1;have p4:=(U.o.len q).2;obtain⟨ic,m2,m3,m4,b4⟩:=info_parts Tryz.FL;clear g7 g8 l8 g5;obtain⟨d5,d6,g9⟩:=ax (D.o.own true k);have d7:=Kz g9;have rA:wr.cell? ⟨f,k,none⟩=some (.slice d5 (L true k).length d6):=by have h:=(D.o.row true).cell j9;rw[g9] at h;exact h
   have h0:Hid (∀w',K_ wr w'->w'.cell? ⟨Z,1,none⟩=some (.slice (some ⟨f,0,none⟩) n n)/\w'.cell? ⟨f,k,none⟩=some (.slice d5 (L true k).length d6)):=fun w' K=>⟨(K.cell R.o.lt).trans R.o.c1,(K.cell (dX (D.o.row true))).trans rA⟩
   clear g9 rA;go_upto_region 11 with fail
   refine bS 12 h0.o fun G KD H=>?_
   refine aB 0 H ?_;refine aB 4 H ?_;refine ae 8 H ?_;refine af 9 (fun K A=>?_);go_simp
   have K5:K_ G (G.alloc (.cells #[.int .i64 (q:Int)] 3)):=ag _ _;have W:(G.alloc (.cells #[.int .i64 (q:Int)] 3)).cell? ⟨G.heap.size,0,none⟩=some (.int .i64 (q:Int)):=X_ G #[.int .i64 (q:Int)] 3 0 _ rfl;have I:=KD.trans K5;refine A.out _ _ (fun _=>h0.o _ I) ?_;clear A K H;have r:=Kz (D.o.kept I);have B:=Kz (R.o.kept I);obtain⟨eb,b5⟩:=ah G.heap.size;rw[<-b5] at W⊢;generalize h1:G.alloc (.cells #[.int .i64 (q:Int)] 3)=w6 at W I r B⊢;clear h1 K5 b5 KD;have a2:=r.o.own true k;rw[d7.o] at a2;have b6:=Kz a2;have b7:u.heap.size<=w6.heap.size:=Jb (a0) I.size;clear a2;try simp only[Act.put,upA,upB,upC]
   refine af 10 (fun K A=>?_);refine step_append_lies _ rfl (.tmp 53) (.tmp 55) 52 rfl u.heap.size 3 ic _ 1 8 underlying52 m2 m3 m4 b4 rfl (by decide) (.slice d5 (L true k).length d6) (L true k).length ((L true k).map rZ) rfl b6.o ⟨eb,0,none⟩ 1 1 [.int .i64 (q:Int)] rfl rfl (fun j u t=>?_) (fun u t=>?_) (by decide) (by unfold maxLen;omega) (by omega) b7 w6.heap.size rfl ?_
   ·match j,t with
    | 0,t=>simp at t;subst t;rw[JL];exact W
    | j+1,t=>simp at t
   ·simp at t;subst t;rfl
   intro gb gc J b8 X a3 h2;rw[<-d7.o] at X a3;obtain⟨b9,c0⟩:=r.o.put true k (x:=q) b8 X (fun y e=>by simp only[Value.ownBlock,JI] at e;subst e;rcases a3 with h | h;exact .inl h;exact .inr (Jv h.symm));have a4:But (fun b=>(g true k).ownBlock=some b) w6 J:=But.aK X (fun b e=>e);have a5:J.rowIs f 52 n (g true):=eT (r.o.row true) (a4.block _ (dX (r.o.row true)) (fun e=>aQ (fe (r.o.row true)) (Y_ (r.o.own true k) e) (by decide) rfl));have h3:=a5.frozen k;have c3:=a5.cell j9;have c4:J.cell? ⟨Z,1,none⟩=some (.slice (some ⟨f,0,none⟩) n n):=(a4.cell B.o.lt (fun e=>aQ B.o.ty (Y_ (r.o.own true k) e) (by decide) rfl)).trans B.o.c1;have a6:Hid (J.cell? ⟨Z,1,none⟩=some (.slice (some ⟨f,0,none⟩) n n)/\J.cell? ⟨f,k,none⟩=some (.slice d5 (L true k).length d6)):=⟨c4,by rw[c3,d7.o]⟩;have⟨h4,d8⟩:=aD b9 c0;refine A.out _ _ (fun _=>a6.o) ?_;clear A K b9 c0 b8 X a3 a4 a5 c4 h2 W;have H:=a6.o;try simp only[Act.put,upA,upB,upC]
   refine ae 11 H ?_;refine af 12 (fun K A=>?_);go_simp
   refine A.out _ _ (fun h=>Ki rfl h) ?_;clear A K H;try simp only[Act.put,upA,upB,upC]
   refine ay ?_;have m5:=Kz (But.aC (S:=fun y=>(g true k).ownBlock=some y\/y= (if true=true then f else l)) I);have c5:=Kz (m5.out.trans d8.o);have d9:=Kz (B.o.but d8.o (fun e=>by
    rcases e with e|e
    ·exact aQ B.o.ty (Y_ (r.o.own true k) e) (by decide) rfl
    ·exact aQ B.o.ty (fe (r.o.row true)) (by decide) e))
   generalize c6:J.setCell ⟨(if true=true then f else l),k,none⟩ (.slice (some ⟨gb,0,none⟩) ((L true k).length+1) gc)=a8 at h4 d8 d9 c5;have c7:J.setCell ⟨f,k,none⟩ (.slice (some ⟨gb,0,none⟩) ((L true k).length+1) gc)=a8:=c6;rw[c7];clear c6 c7 c3 h3 a6 b6 b7 d7 h0 m5 d8 r B I;have h5:∃(g2:Bool->Nat->KI) (N:Bool->Nat->List Nat),Hid (mX a8 u.heap.size n (fun c=>if c=true then f else l) g2 N)/\Hid (N=fun c p=>if c=true/\p=k then L true k++ [q] else L c p):=⟨_,_,h4,Kz rfl⟩;obtain⟨g2,N,a1,h6⟩:=h5;have r5:(N false q).length<=M:=by rw[h6.o];simpa using p4
   have e0:=Kz (c5.o.owns V.o (fun b e F=>by
    rcases F with F|F
    ·exact aQ (Y_ V.o e) (Y_ (D.o.own true k) F) (by decide) rfl
    ·exact aQ (Y_ V.o e) (fe (D.o.row true)) (by decide) F))
   have KA:K_ w2 a8:=c5.o.kept E (fun b e=>by
    rcases e with e|e
    ·exact Jb j4 ((D.o.own true k).lt b e).1
    ·rw[e];exact o1)
   have h7:u.heap.size<=a8.heap.size:=Jb a0 c5.o.size;have p5:=E;clear h4 c5 D R V E a0 p5;obtain⟨e2,e3,h8⟩:=ax (a1.o.own false q);have e4:=Kz h8;have rB:a8.cell? ⟨l,q,none⟩=some (.slice e2 (N false q).length e3):=by have h:=(a1.o.row false).cell l9;rw[h8] at h;exact h
   have h9:Hid (∀w',K_ a8 w'->w'.cell? ⟨Z,2,none⟩=some (.slice (some ⟨l,0,none⟩) n n)/\w'.cell? ⟨l,q,none⟩=some (.slice e2 (N false q).length e3)):=fun w' K=>⟨(K.cell d9.o.lt).trans d9.o.c2,(K.cell (dX (a1.o.row false))).trans rB⟩
   clear h8 rB;go_upto_region 12 with fail
   refine bS 12 h9.o fun G KD H=>?_
   refine aB 0 H ?_;refine aB 4 H ?_;refine ae 8 H ?_;refine af 9 (fun K A=>?_);go_simp
   have K5:K_ G (G.alloc (.cells #[.int .i64 (k:Int)] 3)):=ag _ _;have W:(G.alloc (.cells #[.int .i64 (k:Int)] 3)).cell? ⟨G.heap.size,0,none⟩=some (.int .i64 (k:Int)):=X_ G #[.int .i64 (k:Int)] 3 0 _ rfl;have I:=KD.trans K5;refine A.out _ _ (fun _=>h9.o _ I) ?_;clear A K H;have r:=Kz (a1.o.kept I);have B:=Kz (d9.o.kept I);obtain⟨eb,b5⟩:=ah G.heap.size;rw[<-b5] at W⊢;generalize h1:G.alloc (.cells #[.int .i64 (k:Int)] 3)=w6 at W I r B⊢;clear h1 K5 b5 KD;have a2:=r.o.own false q;rw[e4.o] at a2;have b6:=Kz a2;have b7:u.heap.size<=w6.heap.size:=Jb (h7) I.size;clear a2;try simp only[Act.put,upA,upB,upC]
   refine af 10 (fun K A=>?_);refine step_append_lies _ rfl (.tmp 65) (.tmp 67) 52 rfl u.heap.size 3 ic _ 1 8 underlying52 m2 m3 m4 b4 rfl (by decide) (.slice e2 (N false q).length e3) (N false q).length ((N false q).map rZ) rfl b6.o ⟨eb,0,none⟩ 1 1 [.int .i64 (k:Int)] rfl rfl (fun j u t=>?_) (fun u t=>?_) (by decide) (by unfold maxLen;omega) (by omega) b7 w6.heap.size rfl ?_
   ·match j,t with
    | 0,t=>simp at t;subst t;rw[JL];exact W
    | j+1,t=>simp at t
   ·simp at t;subst t;rfl
   intro gb gc J b8 X a3 h2;rw[<-e4.o] at X a3;obtain⟨b9,c0⟩:=r.o.put false q (x:=k) b8 X (fun y e=>by simp only[Value.ownBlock,JI] at e;subst e;rcases a3 with h | h;exact .inl h;exact .inr (Jv h.symm));have a4:But (fun b=>(g2 false q).ownBlock=some b) w6 J:=But.aK X (fun b e=>e);have a5:J.rowIs l 52 n (g2 false):=eT (r.o.row false) (a4.block _ (dX (r.o.row false)) (fun e=>aQ (fe (r.o.row false)) (Y_ (r.o.own false q) e) (by decide) rfl));have h3:=a5.frozen q;have c3:=a5.cell l9;have c4:J.cell? ⟨Z,2,none⟩=some (.slice (some ⟨l,0,none⟩) n n):=(a4.cell B.o.lt (fun e=>aQ B.o.ty (Y_ (r.o.own false q) e) (by decide) rfl)).trans B.o.c2;have a6:Hid (J.cell? ⟨Z,2,none⟩=some (.slice (some ⟨l,0,none⟩) n n)/\J.cell? ⟨l,q,none⟩=some (.slice e2 (N false q).length e3)):=⟨c4,by rw[c3,e4.o]⟩;have⟨i0,e5⟩:=aD b9 c0;refine A.out _ _ (fun _=>a6.o) ?_;clear A K b9 c0 b8 X a3 a4 a5 c4 h2 W;have H:=a6.o;try simp only[Act.put,upA,upB,upC]
   refine ae 11 H ?_;refine af 12 (fun K A=>?_);go_simp
   refine A.out _ _ (fun h=>Ki rfl h) ?_;clear A K H;try simp only[Act.put,upA,upB,upC]
   refine ay ?_;have m6:=Kz (But.aC (S:=fun y=>(g2 false q).ownBlock=some y\/y= (if false=true then f else l)) I);have c8:=Kz (m6.out.trans e5.o);have m7:=Kz (B.o.but e5.o (fun e=>by
    rcases e with e|e
    ·exact aQ B.o.ty (Y_ (r.o.own false q) e) (by decide) rfl
    ·exact aQ B.o.ty (fe (r.o.row false)) (by decide) e))
   generalize c6:J.setCell ⟨(if false=true then f else l),q,none⟩ (.slice (some ⟨gb,0,none⟩) ((N false q).length+1) gc)=e6 at i0 e5 m7 c8;have c7:J.setCell ⟨l,q,none⟩ (.slice (some ⟨gb,0,none⟩) ((N false q).length+1) gc)=e6:=c6;rw[c7];clear c6 c7 c3 h3 a6 b6 b7 e4 h9 m6 e5 r B I;have p6:=Kz (c8.o.owns e0.o (fun b e F=>by
    rcases F with F|F
    ·exact aQ (Y_ e0.o e) (Y_ (a1.o.own false q) F) (by decide) rfl
    ·exact aQ (Y_ e0.o e) (fe (a1.o.row false)) (by decide) F))
   have KB:K_ w2 e6:=c8.o.kept KA (fun b e=>by
    rcases e with e|e
    ·exact Jb j4 ((a1.o.own false q).lt b e).1
    ·rw[e];exact o2)
   have p7:u.heap.size<=e6.heap.size:=Jb h7 c8.o.size;have h5:∃(i1:Bool->Nat->KI) (L3:Bool->Nat->List Nat),Hid (mX e6 u.heap.size n (fun c=>if c=true then f else l) i1 L3)/\Hid (L3=fun c p=>if c=false/\p=q then N false q++ [k] else N c p):=⟨_,_,i0,Kz rfl⟩;obtain⟨i1,L3,d1,m8⟩:=h5;have p8:Hid (fP (fun x y=>y∈Q x) d k C (j+1) (M+1) (L3 true) (L3 false)):=by
    have e1:L3 true=fun p=>if p=k then L true k++ [q] else L true p:=by funext p;rw[m8.o,h6.o];simp
    have F:L3 false=fun p=>if p=q then L false q++ [k] else L false p:=by funext p;rw[m8.o,h6.o];simp
    show fP _ _ _ _ _ _ _ _;rw[e1,F];exact m0.o
   clear i0 c8 a1 e0 KA h7 m0;go_wp2
   go_roundw
   case rel=>exact⟨j+1,M+1,i1,L3,by omega,by go_num,by omega,d1,p8,m7,p6,KB,p7⟩
   case measure=>simp[intOf];omega
def FZ(l:List Zk)(s:KC):KI:=match l.find? (fun t=>decide (t.r.name=s)) with
 | some t=>t.qv
 | none=>.slice none 0 0
def strOf :KI->KC
 | .string b=>b
 | _=>ByteArray.empty
def jf(l:List Zk)(s:KC):List KC:=match l.find? (fun t=>decide (t.r.name=s)) with
 | some t=>t.qs.map strOf
 | none=>[]
theorem Eg{l:List Zk}{u:Zk}(c:∀t∈l,t.r.name≠u.r.name)(s:KC):(l++ [u]).find? (fun t=>decide (t.r.name=s))=if s=u.r.name then some u else l.find? (fun t=>decide (t.r.name=s)):=by
 rw[List.find?_append];by_cases e:s=u.r.name
 ·rw[Kg e];have:l.find? (fun t=>decide (t.r.name=s))=none:=by
   rw[List.find?_eq_none];intro t b;simpa[e] using c t b
  rw[this];simp[e]
 ·rw[Kh e];have d:[u].find? (fun t=>decide (t.r.name=s))=none:=by
   rw[List.find?_eq_none];intro t b;rw[Jg] at b;subst b;simpa using fun g=>e g.symm
  rw[d];simp
structure ou (w:KH) (mo:Nat) (l:List Zk):Prop where
 map:∃N D,N<=l.length/\w.ownsMap prog 9 asIs mo N D/\(∀s:KC,s.size<=maxLen->D.atKey (je s) (.held (.slice none 0 0))= .held (FZ l s))/\∀s:KC,Maps.has D (je s)=true↔∃t∈l,t.r.name=s
theorem ou.made(w:KH):ou (w.alloc (.map #[] 0)) w.heap.size []:=
 ⟨⟨0,.map [],IZ _,World.ownsMap_made w prog 9 asIs,fun s _=>rfl,fun s=>by simp[Maps.has]⟩⟩
theorem ou.kept{w w':KH}{a:Nat}{l:List Zk}(h:ou w a l)(k:K_ w w'):ou w' a l:=by
 obtain⟨N,D,b,c,d⟩:=h.map;exact⟨⟨N,D,b,kv (S:=fun _=>False) c (But.aC k) id,d⟩⟩
theorem ou.put{w:KH}{c:Nat}{l:List Zk}(m:ou w c l){u:Zk}(p:u.r.name.size<=maxLen)(A:l.length<=1000)(q:∀t∈l,t.r.name≠u.r.name):
  ∃w2,(Instr.mapUpdate 58 (.map (some c)) (.string u.r.name) u.qv).run prog w= .ok () w2/\ou w2 c (l++ [u])/\But (fun b=>b=c) w w2:=by
 obtain⟨N,D,B,h,i⟩:=m.map;obtain⟨w2,s,v,x⟩:=h.update Tryz.keyed underlying58 (by unfold maxLen;omega) (WideMaps.keyOf_string_mk underlying9 p) (d:= .held u.qv) (ps:=[]) rfl;have j:Maps.IsMap D:=by obtain⟨C,E,_,_,_,rfl⟩:=h;exact⟨_,rfl⟩
 refine⟨w2,s,⟨⟨N+1,_,by rw[JH];simp;omega,v,fun n y=>?_,fun n=>?_⟩⟩,But.aK x (fun b e=>(JR e).symm)⟩
 ·unfold FZ;rw[Eg q];by_cases e:n=u.r.name
  ·rw[Kg e,e];exact Maps.atKey_put_same (k:=je u.r.name) j (by show WideAt.IsKeyLit (.string _);exact trivial) _ _
  ·rw[Kh e];have a:=i.1 n y;unfold FZ at a;rw[<-a];exact Maps.atKey_put_other (nW e) _ _
 ·by_cases e:n=u.r.name
  ·rw[e];exact⟨fun _=>⟨u,by simp,rfl⟩,fun _=>Maps.has_put_same (k:=je u.r.name) j (by show WideAt.IsKeyLit (.string _);exact trivial) (.held u.qv)⟩
  ·refine (Eq.to_iff (congrArg (· =true) (Maps.has_put_other (nW e) (.held u.qv)))).trans ((i.2 n).trans ?_);constructor
   ·rintro⟨t,f,a⟩;exact⟨t,Jh.2 (.inl f),a⟩
   ·rintro⟨t,f,a⟩;rcases Jh.1 f with g|g
    ·exact⟨t,g,a⟩
    ·rw[Jg] at g;rw[g] at a;exact Ki a.symm e
theorem CY(L:List KC):(L.map Value.string).map strOf=L:=by
 induction L with
 | nil=>rfl
 | cons a L ih=>simp only[List.map_cons,ih];rfl
section
variable {G : bW} {Kq : List Qz} {wz w w' : KH} {bb : Nat} {a : KG} {cap : Nat} {rd : KG} {rn rc : Nat} {mb mx : Nat} {ts : List Zk} {d : KG} {dc : Nat} {f : KC -> KI} {ws : KC -> List Nat}
theorem uQ(j:BM G Kq wz w bb a cap rd rn rc mb mx ts d dc f ws)(l:BS Kq ts ws){t:Zk}(c:t∈ts):∃L,t.qs=L.map Value.string/\t.qs.map strOf=L/\gZ (Kk Kq) (Qq (Qj ts)) t.r L/\L.length<=5*mx/\∃b e,t.qv= .slice b L.length e/\Strs w b L:=by
 obtain⟨L,m,h⟩:=l.qs t c;have k:=(j.fE t c).ask;have i:=j.qb t c;rw[h] at k i;rw[J_] at i;obtain⟨b,e,n,p⟩:=bi k;exact⟨L,h,by rw[h];exact CY L,m,i,b,e,n,p⟩
theorem lv{s:KC}{t:Zk}(h:ts.find? (fun u=>decide (u.r.name=s))=some t):t∈ts/\t.r.name=s:=⟨List.mem_of_find?_eq_some h,by simpa using List.find?_some h⟩
theorem ou.lists(i:BM G Kq wz w bb a cap rd rn rc mb mx ts d dc f ws)(j:BS Kq ts ws)(_hmx:mx<=9000)(A:ts.length<=60){e:Nat}(k:ou w e ts):yE w e (fun s=>s∈ts.map (·.r.name)) (jf ts):=by
 obtain⟨N,D,B,l,m,n⟩:=k.map;refine⟨⟨N,D,by omega,l,fun s b=>?_,fun s=>?_⟩,fun s b=>?_⟩
 ·rw[m s b];unfold FZ jf;cases c:ts.find? (fun t=>decide (t.r.name=s)) with
  | none=>exact⟨none,0,rfl,fun C p=>by cases p⟩
  | some t=>
   obtain⟨L,E,h,_,_,q,v,x,y⟩:=uQ i j (lv c).1;exact⟨q,v,by simp only;rw[x,h],by simp only;rw[h];exact y⟩
 ·rw[n s,Ju]
 ·unfold jf at b;cases c:ts.find? (fun t=>decide (t.r.name=s)) with
  | none=>rw[c] at b;exact Ki rfl b
  | some t=>exact Ju.2 ⟨t,(lv c).1,(lv c).2⟩
theorem Gd(c:BM G Kq wz w bb a cap rd rn rc mb mx ts d dc f ws)(e:BS Kq ts ws)(j:mx<=9000)(s:KC):(jf ts s).length<=1000000:=by
 unfold jf;cases h:ts.find? (fun t=>decide (t.r.name=s)) with
 | none=>exact Ja _
 | some t=>
  obtain⟨L,_,i,_,l,_⟩:=uQ c e (lv h).1;simp only;rw[i];omega
theorem Gb(l:BM G Kq wz w bb a cap rd rn rc mb mx ts d dc f ws)(e:BS Kq ts ws)(x y:KC):y∈jf ts x↔gF (Kk Kq) (Qq (Qj ts)) x y:=by
 unfold jf;cases h:ts.find? (fun t=>decide (t.r.name=x)) with
 | none=>
  constructor
  ·intro m;cases m
  ·rintro⟨s,L,p,_⟩;obtain⟨i,j⟩:=bC p;obtain⟨t,c,rfl⟩:=Ju.1 i;rw[List.find?_eq_none] at h;exact Ki j (by simpa using h t c)
 | some t=>
  obtain⟨c,q⟩:=lv h;obtain⟨L,_,i,j,_⟩:=uQ l e c;simp only;rw[i];have k:=bn e.good.asc (JQ (f:=fun t:Zk=>t.r) c);rw[q] at k;obtain⟨A,r,_⟩:=(e.good.good t.r (JQ (f:=fun t:Zk=>t.r) c)).act;exact wV k (by rw[r];rfl) j y
end
section
variable {G : bW} {Kq : List Qz} {wz w w' : KH} {bb : Nat} {a : KG} {cap : Nat} {rd : KG} {rn rc : Nat} {mb mx : Nat} {ts : List Zk} {d : KG} {dc : Nat} {f : KC -> KI} {ws : KC -> List Nat}
theorem Dy(q:BM G Kq wz w bb a cap rd rn rc mb mx ts d dc f ws)(y:BS Kq ts ws)(a1:bV (Kk Kq))(b4:ts.length<=60):
  Calls prog 75 #[.pointer (some ⟨bb,0,none⟩)] w fun e w'=>(∃h,e= .returned (.map (some h))/\ou w' h ts)/\K_ w w':=by
 obtain⟨N,s⟩:=ah (w.alloc (.map #[] 0));have O:K_ w N:=by rw[s];exact ag _ _
 obtain⟨h,v⟩:=ah w.heap.size;have P:Hid (ou N h []):=by rw[s,v];exact ou.made w
 have a2:Hid (w.heap.size<=h):=Jv v.symm;have Q:=Kz (q.kept O);have⟨a3,HS⟩:=aD q y;have a4:Hid (∀t∈ts,t.r.name.size<=maxLen):=fun t i=>by
  obtain⟨b5,hA,_⟩:=(y.good.good t.r (JQ (f:=fun t:Zk=>t.r) i)).act;have:=(a1 _ _ hA).2.2.1;unfold maxLen;omega
 have a5:Hid (∀k (A:k<ts.length),∀t∈ts.take k,t.r.name≠ts[k].r.name):=fun k A t i e=>by
  obtain⟨a6,hj,rfl⟩:=Jk i;rw[Jt] at hj;rw[JE] at e;have:=Jj.1 q.asc a6 k (by simp[Qj];omega) (by simpa[Qj] using A) (by omega);simp only[Qj,List.getElem_map] at this;exact dA this e
 have c3:=Q.o.c3;have bz:=Q.o.row.lt;clear q y;have a7:(Instr.makeMap 58 none).run prog w= .ok (.map (some w.heap.size)) (w.alloc (.map #[] 0)):=rfl;go_enter func75,ntmps75
 go_upto_region 2 with fail
 clear a7;rw[<-s,<-v];clear s v;go_wp2
 go_loopw [13] (fun B wr=>∃k:Nat,k<=ts.length/\B= .int .i64 (k:Int)/\Hid (ou wr h (ts.take k))/\K_ w wr) (fun B _=>ts.length-(intOf B).toNat)
 case atStart=>exact⟨0,Ja _,rfl,P,O⟩
 case round=>
  clear P c3 bz;obtain⟨k,A,rfl,C,D⟩:=hrel;by_cases l:k<ts.length;rotate_left
  ·have b6:¬((k:Int)<(ts.length:Int)):=by omega
   have a8:Hid (ou wr h ts):=by have j:=C.o;rw[show k=ts.length by omega,JB] at j;exact j
   clear l;go_wp2
   go_ret
   exact⟨⟨h,rfl,a8.o⟩,D⟩
  have b7:(k:Int)<(ts.length:Int):=by omega
  have R:=Kz (a3.o.kept D);obtain⟨t,i⟩:=ah (ts[k]);have E:t∈ts:=by rw[i];exact Ji l
  obtain⟨x,S,a9,b8,b9⟩:∃x S,d=some ⟨x,0,none⟩/\x<wr.heap.size/\wr.cell? ⟨x,k,none⟩=some (.pointer (some ⟨t.tb,0,none⟩))/\S=0:=by
   have T:=R.o.items;rcases T.2 with⟨m,_⟩|⟨g,c,c0,m,_,hg,_⟩
   ·simp only[JJ] at m;omega
   ·simp only[JJ] at m;refine⟨g,0,m.1,aN hg, ?_,rfl⟩;have U:=T.cells (g:=g) (by rw[m.1];rfl) k t.ptr (by rw[List.getElem?_map,Jd l,i];rfl);rw[JL,JA] at U;exact U
  subst a9;have n:=R.o.fE t E;have F:wr.cell? ⟨t.tb,0,none⟩=some (.string t.r.name):=n.rng 0 _ rfl;have H:wr.cell? ⟨t.tb,10,none⟩=some t.qv:=by have j:=n.rng 10 t.qv rfl;rw[JA] at j;exact j
  have I:=n.row.lt;obtain⟨nm,J⟩:=ah t.r.name;obtain⟨qa,qc,L⟩:=ax n.ask;rw[<-J] at F;rw[L] at H;have⟨b0,b1,V,b2⟩:=jh L J i E;have W:Hid (∀u,K_ wr u->u.cell? ⟨t.tb,0,none⟩=some (.string nm)/\u.cell? ⟨t.tb,10,none⟩=some (.slice qa t.qs.length qc)):=fun u K=>⟨(K.cell I).trans F,(K.cell I).trans H⟩
  clear n L J i E;go_upto_region 5 with fail
  refine bS 10 W.o fun wd M p=>?_
  refine aB 0 p ?_;refine aB 4 p ?_;refine ae 8 p ?_;refine ae 9 p ?_;obtain⟨w2,X,Y,Z⟩:=(C.o.kept M).put (u:=t) (a4.o t b2.o) (by rw[Jt];omega) (by rw[V.o];exact a5.o k l);have b3:Hid (ou w2 h (ts.take (k+1))):=by rw[Jf l,<-V.o];exact Y
  have K2:K_ w w2:=Z.kept (D.trans M) (fun b e=>by rw[e];exact a2.o);rw[<-b1.o,b0.o] at X;clear Y Z C;refine af 10 (fun K a0=>?_);go_simp
  refine a0.out _ _ (fun j=>Ki rfl j) ?_;clear a0 K;try simp only[Act.put,upA,upB,upC]
  refine ay ?_;clear X p M W F H I;go_wp2
  go_roundw
  case rel=>exact⟨k+1,by omega,by go_num,b3,K2⟩
  case measure=>simp[intOf];omega
end
def Gp(nm:List KC)(ps:List Nat)(w w':KH)(e:Ending):Prop:=
 ∃da:KG,e= .returned (.slice da (ps.map (nameOf nm)).length (ps.map (nameOf nm)).length)/\jG w' w.heap.size w'.heap.size da (ps.map (nameOf nm))/\K_ w w'
theorem Fz(w:KH)(l:KG)(n:Nat)(a:List KC)(v1 v2:KI)(_h1c:v1.oneCell'=true)(_h2c:v2.oneCell'=true)(F:KG)(N:Nat)(ps:List Nat)(G:∀p∈ps,p<a.length)(b7:ps.length<=1000)(_hnl:a.length<=1000)(O:∀s∈a,s.size<=1048576)(P:Strs w l a)(Q:r_ w F ps):
  Calls prog 35 #[.agg #[.slice l a.length n,v1,v2],.slice F ps.length N] w fun e w'=>Gp a ps w w' e:=by
 obtain⟨R,S,T,U,V⟩:=aO Tryz.dh;obtain⟨b,m⟩:=ah (w.alloc (.cells #[.slice l a.length n,v1,v2] 68));have q:K_ w b:=by rw[m];exact ag _ _
 have W:b.cell? ⟨w.heap.size,0,none⟩=some (.slice l a.length n):=by rw[m];exact X_ w #[.slice l a.length n,v1,v2] 68 0 _ rfl
 have X:w.heap.size<b.heap.size:=by rw[m];simp
 go_enter func35,ntmps35
 go_upto_region 1 with fail
 rw[<-m];clear m;go_wp2
 go_loopg [5,10] ps.length (fun Y Z a0 wr=>∃(i:Nat) (c:KG) (d:Nat),Z= .slice c i d/\a0= .int .i64 (i:Int)/\i+Y=ps.length/\K_ b wr/\Hid (wr.ownsRow b.heap.size 9 1 (.slice c i d) i (((ps.take i).map (nameOf a)).map Value.string)))
 case atStart=>exact⟨0,none,0,rfl,rfl,by omega,K_.refl _,JP _ _ _ _⟩
 case round=>
  obtain⟨i,c,d,rfl,rfl,hi,f,y⟩:=hrel;by_cases b8:(i:Int)<(ps.length:Int)
  ·have r:i<ps.length:=by omega
   obtain⟨pb,po,e1,b9,a1⟩:=(Q.kept (q.trans f)) i r;subst e1;obtain⟨p,h⟩:=ah (ps.getD i 0);rw[<-h] at a1;have a2:p<a.length:=G p (by rw[h];simp[List.getD,r]);obtain⟨sb,so,e2,c0,a3⟩:=(P.kept (q.trans f)) p a2;subst e2;obtain⟨s,j⟩:=ah (a.getD p ByteArray.empty);rw[<-j] at a3;have a4:Hid ((ps.take (i+1)).map (nameOf a)= (ps.take i).map (nameOf a)++ [s]):=by
    show _=_;rw[Jf r,Km,j,h];simp[nameOf,List.getD,r]
   have c1:=(f.cell X).trans W;have c2:(p:Int)<(a.length:Int):=by omega
   clear h j;have A:K_ wr (wr.alloc (.cells #[.string s] 9)):=ag _ _;have H:=Kz (aj y.o A);have I:=Kz (f.trans A);have a5:b.heap.size<=(wr.alloc (.cells #[.string s] 9)).heap.size:=I.out.size;have a6:Hid (∀t u,([.string s]:List KI)[t]? =some u->(wr.alloc (.cells #[.string s] 9)).cell? ((⟨wr.heap.size,0,none⟩:Addr).add t)=some u):=fun t u v=>by rw[JL];exact X_ wr #[.string s] 9 t u v
   have a7:Hid (∀u∈([.string s]:List KI),u.oneCell'=true):=fun u v=>by simp only[JN,JO,or_false] at v;subst v;rfl
   clear A;go_wp2_with (at_builtin;refine wpList_append_own _ rfl (.tmp 14) (.tmp 20) 26 rfl b.heap.size 9 R _ 1 16 underlying26 S T U V rfl (by decide) (.slice c i d) i (((ps.take i).map (nameOf a)).map Value.string) rfl H.o ⟨wr.heap.size,0,none⟩ 1 1 [.string s] rfl rfl a6.o a7.o (by unfold maxLen;omega) (by omega) a5 ?_;intro v' w6 B J _;have KP:=aF I.out (IZ _) H.o J;have a8:=Kz B;obtain⟨a9,b0,rfl⟩:=ax B;clear B J)
   go_roundg (gk-1)
   case measure=>omega
   case rel=>exact⟨i+1,a9,b0,rfl,by go_num,by omega,KP,Kz (by rw[a4.o,Km];exact a8.o)⟩
  ·have b1:i=ps.length:=by omega
   subst b1;rw[JB] at y;obtain⟨c3,c9,C,D⟩:=bi y.o;simp only[JJ] at C;rw[<-C.1] at D;have K:=Kz D;obtain⟨k,x⟩:=ah (ps.map (nameOf a));have L:ps.length=k.length:=by rw[x];simp
   rw[<-x] at K;have E:=Kz x;have b2:Hid (∀s∈k,s.size<=1048576):=fun s j=>by
    rw[E.o] at j;obtain⟨p,h,rfl⟩:=Ju.1 j;have:=G p h;exact O _ (by rw[lK this];exact Ji this)
   have b3:Hid (Calls prog 30 #[.slice c ps.length d,.func (.func 33) #[] #[]] wr fun e w'=>∃da,e= .returned (.slice da k.length k.length)/\jG w' wr.heap.size w'.heap.size da k/\K_ wr w'):=by
    show Calls _ _ _ _ _;rw[L];exact rD wr c d k (by omega) b2.o K.o
   clear C D x L;go_wp2_with fail
   refine b3.o.mono ?_;rintro e w5 ⟨b4,rfl,M,k5⟩;have b5:=Kz M;clear M;go_wp2
   go_ret
   refine⟨b4,by rw[E.o];rfl, ?_,(q.trans f).trans k5⟩;have b6:=b5.o;rw[<-E.o];have hz:=(q.trans f).size;exact b6.mono hz (IZ _)
def Gw(E:KC->KC->Prop)(names:List KC)(name:KC)(w w':KH)(e:Ending):Prop:=
 ∃(da:KG) (ns:List KC),e= .returned (.slice da ns.length ns.length)/\jG w' w.heap.size w'.heap.size da ns/\ns.length<=60/\pE E names name ns/\K_ w w'
section
variable {G : bW} {Kq : List Qz} {wz w w' : KH} {bb : Nat} {a : KG} {cap : Nat} {rd : KG} {rn rc : Nat} {mb mx : Nat} {ts : List Zk} {d : KG} {dc : Nat} {f : KC -> KI} {ws : KC -> List Nat}
theorem FH(Q:BM G Kq wz w bb a cap rd rn rc mb mx ts d dc f ws)(E:BS Kq ts ws)(b3:bV (Kk Kq))(b4:mx<=9000)(R:ts.length<=60)(m:KC):
  Calls prog 42 #[.pointer (some ⟨bb,0,none⟩),.string m] w fun e w'=>Gw (gF (Kk Kq) (Qq (Qj ts))) (ts.map (·.r.name)) m w w' e:=by
 have d3:=Kz (Gb Q E);have b5:Hid (∀s,s∈ts.map (·.r.name)->s.size<=20):=fun s a0=>by
  obtain⟨a1,ht,rfl⟩:=Ju.1 a0;obtain⟨g8,hA,_⟩:=(E.good.good a1.r (JQ (f:=fun a1:Zk=>a1.r) ht)).act;exact (b3 _ _ hA).2.2.1
 have b6:=Kz (Gd Q E b4);have⟨HB,HS⟩:=aD Q E;clear Q E;go_enter func42,ntmps42
 go_wp2_with fail
 refine (Dy HB.o HS.o b3 R).mono ?_;rintro e w1 ⟨⟨mo,rfl,hM⟩,k1⟩;have a2:=Kz (hM.lists (HB.o.kept k1) HS.o b4 R);clear hM;go_wp2_with fail
 refine (Ar w1 mo _ (jf ts) (ts.map (·.r.name)) (fun s h=>h) (by rw[J_];exact R) b5.o b6.o a2.o).mono ?_;rintro e w2 ⟨F,H,b,S,T,M,d4,d5,rfl,a3,I,hV,hR,d6,k2⟩;have d7:b.length<=60:=by
  refine Jb (List.Nodup.length_le_of_subset ?_ (fun x J=>(I x).1 J)) (by rw[J_];exact R);exact a3.imp fun {a d8} d9=>dA d9
 have e0:Hid (mr (fun x y=>y∈jf ts x) b):=⟨a3,fun x y b7=>(I x).2 (a2.o.sub x (fun e=>by rw[e] at b7;cases b7))⟩;have b8:Hid (∀s∈b,s.size<=1048576):=fun s a0=>by have:=b5.o s ((I s).1 a0);omega
 have⟨e2,HR⟩:=aD I hR;obtain⟨l,A⟩:=ah (w2.alloc (.cells #[.slice F b.length H,.slice (some ⟨S,0,none⟩) b.length b.length,.slice (some ⟨T,0,none⟩) b.length b.length] 68));have a4:K_ w2 l:=by rw[A];exact ag _ _
 obtain⟨K,U⟩:=ah w2.heap.size;have L:Hid (∀u,K_ l u->u.cell? ⟨K,0,none⟩=some (.slice F b.length H)/\u.cell? ⟨K,1,none⟩=some (.slice (some ⟨S,0,none⟩) b.length b.length)/\u.cell? ⟨K,2,none⟩=some (.slice (some ⟨T,0,none⟩) b.length b.length)):=fun u k=>by
  have z1:w2.heap.size<l.heap.size:=by rw[A];simp
  have h:=X_ w2 #[.slice F b.length H,.slice (some ⟨S,0,none⟩) b.length b.length,.slice (some ⟨T,0,none⟩) b.length b.length] 68;rw[<-A] at h;rw[U];exact⟨(k.cell z1).trans (h 0 _ rfl),(k.cell z1).trans (h 1 _ rfl),(k.cell z1).trans (h 2 _ rfl)⟩
 have e3:Hid (K<l.heap.size):=by
  show K<l.heap.size;rw[U,A];simp
 have a5:=Kz (hV.kept a4);have a6:=k2.trans a4;have KW:=Kz (k1.trans a6);have⟨e4,b9,c0⟩:=eB a6 A U;clear a3 I hV hR k1 k2 a4 a6 A U;go_upto_region 3 with fail
 rw[<-b9.o,<-c0.o];clear b9 c0;obtain⟨s0,s1,s2⟩:=L.o _ (K_.refl l);have xz:=e3.o;go_wp2_with fail
 clear s0 s1 s2 xz;go_loopw [7,17] (fun x7 a7 wr=>∃(i:Nat) (c:List Nat) (t:KG) (B:Nat),i<=b.length/\a7= .int .i64 (i:Int)/\x7= .slice t c.length B/\c.length<=i/\Hid (wr.ownsRow l.heap.size 3 1 (.slice t c.length B) c.length (c.map rZ))/\Hid (c.Nodup)/\Hid (∀q,q∈c↔q<i/\∃V:q<b.length,m∈jf ts b[q])/\K_ l wr) (fun _ a7 _=>b.length-(intOf a7).toNat)
 case atStart=>exact⟨0,[],none,0,Ja _,rfl,rfl,Ja _,JP _ _ _ _,Kz List.nodup_nil,Kz (fun q=>by simp),K_.refl _⟩
 case round=>
  obtain⟨i,c,t,B,hi,rfl,rfl,g9,HO,a8,W,C⟩:=hrel;by_cases N:i<b.length;rotate_left
  ·have h0:¬((i:Int)<(b.length:Int)):=by omega
   have e5:Hid (r_ wr t c):=by
    obtain⟨a9,h2,e9,_,h9⟩:=oN HO.o rfl;simp only[JJ,true_and] at e9;rw[<-e9.1] at h9;exact h9
   have D:Hid (∀q,q∈c↔∃V:q<b.length,m∈jf ts b[q]):=fun q=>by
    rw[W.o];exact⟨fun h=>h.2,fun h=>⟨by obtain⟨V,_⟩:=h;omega,h⟩⟩
   clear N;go_upto_region 10 with fail
   refine gL 5 L.o (C.trans (aG wr)) (fun O=>?_);have KD:K_ l wr.drew:=C.trans (aG wr);have c1:=Kz (e5.o.kept (aG wr));generalize e6:wr.drew=wd at O KD c1⊢;clear e6;refine ae 0 O ?_;refine ae 1 O ?_;refine ae 2 O ?_;refine ai 3 (fun P n=>?_);go_simp
   go_at_call 73
   refine (vB wd F H b S T d4 d5 _ M t B c (fun p hp=>by obtain⟨h,_⟩:=(D.o p).1 hp;exact h) a8.o d7 d6 (a5.o.kept KD) HR.o c1.o).mono ?_;rintro e w3 ⟨pa,pc,X,rfl,c2,e7,c3,b0,k3⟩;have Y:=KD.trans k3;have e8:=Kz c2;have f0:Hid (pE (fun x y=>y∈jf ts x) (ts.map (·.r.name)) m (X.map (nameOf b))):=AQ e0.o e2.o D.o b0 c3;have f1:Hid (∀p∈X,p<b.length):=fun p hp=>((b0 p).1 hp).1
   clear c2 b0 c3;dsimp only;refine n.out _ _ (fun _=>L.o _ Y) ?_;clear n P;try simp only[Act.put,upA,upB,upC]
   clear O;refine ai 4 (fun P n=>?_);go_simp
   go_at_call 35
   refine (Fz w3 F H b _ _ rfl rfl pa pc X f1.o (by omega) (by omega) b8.o (a5.o.kept Y).names e8.o).mono ?_;rintro e w4 ⟨da,rfl,hT,k4⟩;have K4:=Y.trans k4;have⟨HT,c4⟩:=aD hT Y;clear hT;dsimp only;refine n.out _ _ (fun _=>L.o _ K4) ?_;clear n P;try simp only[Act.put,upA,upB,upC]
   refine af 5 (fun P n=>?_);go_simp
   refine n.out _ _ (fun h=>Ki rfl h) ?_;clear n P;try simp only[Act.put,upA,upB,upC]
   refine ay ?_;clear L HR;go_wp2
   go_ret
   have KA:=c4.o.trans k4;refine⟨da,X.map (nameOf b),by rw[J_];rfl,HT.o.mono (Jb KW.out.size c4.o.size) (IZ _),by rw[J_];exact e7, ?_,KW.out.trans KA⟩;have he:(fun x y=>y∈jf ts x)=gF (Kk Kq) (Qq (Qj ts)):=by funext x y;exact propext (d3.o x y)
   rw[<-he];exact f0.o
  have h4:(i:Int)<(b.length:Int):=by omega
  obtain⟨qb,qo,e1,h5,f2⟩:=(a5.o.kept C).names i N;subst e1;obtain⟨x,J⟩:=ah (b.getD i ByteArray.empty);rw[<-J] at f2;have b1:b[i]=x:=by rw[J];simp[List.getD,N]
  have c5:=Kz b1;have f3:x.size<=maxLen:=by have:=b8.o b[i] (Ji N);rw[b1] at this;unfold maxLen;omega
  obtain⟨la,lc,f4,c6⟩:=a2.o.look (e4.o.trans C) f3;have f5:=Kz c6;have h6:=b6.o x;clear J b1 c6;go_wp2_with fail
  refine (u_ wr la lc (jf ts x) m (by omega) f5.o).mono ?_;rintro e w5 ⟨⟨bs,rfl,c7⟩,c8⟩;rw[c8];have c9:=Kz c7;clear c7 c8 f4;cases bs
  ·have D:Hid (∀q,q∈c↔q<i+1/\∃V:q<b.length,m∈jf ts b[q]):=fun q=>by
    rw[W.o];constructor
    ·rintro⟨h1,v⟩;exact⟨by omega,v⟩
    ·rintro⟨h1,v,h3⟩;by_cases e:q=i
     ·subst e;rw[c5.o] at h3;have f6:=c9.o.2 h3;cases f6
     ·exact⟨by omega,v,h3⟩
   go_wp2
   go_roundw
   case rel=>exact⟨i+1,c,t,B,by omega,by go_num,rfl,by omega,HO,a8,D,C⟩
   case measure=>simp[intOf];omega
  ·have D:Hid (∀q,q∈c++ [i]↔q<i+1/\∃V:q<b.length,m∈jf ts b[q]):=fun q=>by
    rw[Jh,Jg,W.o];constructor
    ·rintro (⟨h1,v⟩|rfl)
     ·exact⟨by omega,v⟩
     ·exact⟨by omega,N,by rw[c5.o];exact c9.o.1 rfl⟩
    ·rintro⟨h1,v⟩;by_cases e:q=i
     ·exact .inr e
     ·exact .inl ⟨by omega,v⟩
   have f7:Hid ((c++ [i]).Nodup):=by
    show (c++ [i]).Nodup;rw[List.nodup_append];exact⟨a8.o,by simp,fun a ha d8 hb e=>by rw[Jg] at hb;rw[e,hb] at ha;have:=((W.o i).1 ha).1;omega⟩
   obtain⟨ic,f8,f9,g0,g1⟩:=info_parts Tryz.AA;have ka:K_ wr (wr.alloc (.cells #[.int .i64 (i:Int)] 3)):=ag _ _;have d0:=Kz (aj HO.o ka);have d1:=Kz (C.trans ka);have g2:l.heap.size<=(wr.alloc (.cells #[.int .i64 (i:Int)] 3)).heap.size:=d1.o.size;have g3:Hid (∀j u,([.int .i64 (i:Int)]:List KI)[j]? =some u->(wr.alloc (.cells #[.int .i64 (i:Int)] 3)).cell? ((⟨wr.heap.size,0,none⟩:Addr).add j)=some u):=fun j u Z=>by rw[JL];exact X_ wr #[.int .i64 (i:Int)] 3 j u Z
   have g4:Hid (∀u∈([.int .i64 (i:Int)]:List KI),u.oneCell'=true):=fun u Z=>by simp only[JN,JO,or_false] at Z;subst Z;rfl
   clear ka;go_wp2_with (at_builtin;refine wpList_append_own _ rfl (.tmp 27) (.tmp 29) 52 rfl l.heap.size 3 ic _ 1 8 underlying52 f8 f9 g0 g1 rfl (by decide) (.slice t c.length B) c.length (c.map rZ) rfl d0.o ⟨wr.heap.size,0,none⟩ 1 1 [.int .i64 (i:Int)] rfl rfl g3.o g4.o (by unfold maxLen;omega) (by omega) g2 ?_;intro v' w6 b2 d2 _;have KP:=aF d1.o (IZ _) d0.o d2;have g5:=Kz b2;obtain⟨g6,g7,rfl⟩:=ax b2;clear b2 d2)
   go_roundw
   case rel=>exact⟨i+1,c++ [i],g6,g7,by omega,by go_num,by rw[JH];rfl,by rw[JH];simp;omega,Kz (by rw[JH,Km];exact g5.o),f7,D,KP⟩
   case measure=>simp[intOf];omega
end
