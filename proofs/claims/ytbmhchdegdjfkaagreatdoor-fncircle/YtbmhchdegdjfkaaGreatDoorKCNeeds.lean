import Derived.Test.YtbmhchdegdjfkaaGreatDoorKBSame
import Derived.Test.YtbmhchdegdjfkaaGreatDoorKShelfS
import Derived.Test.YtbmhchdegdjfkaaGreatDoorKIter
set_option maxRecDepth 100000
set_option maxHeartbeats 25600000
namespace Go.Proofs.YtbmhchdegdjfkaaGreatDoor
open Go.RowKit Go.Proofs.Tryz
def yN(ts:List Zx)(ws:LK->List Nat)(x s:LK):Prop:=∃t∈ts,t.r.name=x/\t.tb∈ws s
structure Bp (ts:List Zx) (ws:LK->List Nat) (M:Nat) (P:LK->Prop) (ol:LK->List LK):Prop where
 iff:∀x s,s∈ol x↔P s/\yN ts ws x s
 nd:∀x,(ol x).Nodup
 len:∀x,(ol x).length<=M
variable {ws : LK -> List Nat} {P : LK -> Prop} {ts : List Zx}
theorem Bp.start(h:∀s,¬P s):Bp ts ws 0 P (fun _=>[]):=
 ⟨fun x s=>⟨fun e=>(by cases e),fun e=>(h s e.1).elim⟩,fun _=>List.nodup_nil,fun _=>JP _⟩
structure Ay (ts:List Zx) (ws:LK->List Nat) (M:Nat) (P:LK->Prop) (s:LK) (k:Nat) (ol:LK->List LK):Prop where
 iff:∀x s',s'∈ol x↔(P s'/\yN ts ws x s')\/(s'=s/\∃t∈ts,t.r.name=x/\t.tb∈(ws s).take k)
 nd:∀x,(ol x).Nodup
 len:∀x,(ol x).length<=M
variable {ol : LK -> List LK}
theorem Bp.enter{M:Nat}(h:Bp ts ws M P ol)(s:LK):Ay ts ws M P s 0 ol:=
 ⟨fun x c=>by rw[h.iff];simp,h.nd,h.len⟩
variable {s : LK}
theorem Ay.leave{M:Nat}{Q:LK->Prop}{k:Nat}(h:Ay ts ws M P s k ol)(d:(ws s).length<=k)(e:∀c,Q c↔P c\/c=s):Bp ts ws M Q ol:=
 ⟨fun x c=>by
  rw[h.iff,e,KJ d];constructor
  ·rintro (⟨a,b⟩|⟨a,b⟩)
   ·exact⟨.inl a,b⟩
   ·subst a;exact⟨.inr rfl,b⟩
  ·rintro⟨a|a,b⟩
   ·exact .inl ⟨a,b⟩
   ·subst a;exact .inr ⟨rfl,b⟩,h.nd,h.len⟩
theorem Ay.put{M:Nat}{k:Nat}(i:Ay ts ws M P s k ol)(F:¬P s)(l:cO (Qk ts))(G:(ts.map (·.tb)).Nodup)(H:(ws s).Nodup){u:Zx}(m:u∈ts)(I:(ws s)[k]? =some u.tb):
  Ay ts ws (M+1) P s (k+1) (fun n=>if n=u.r.name then ol u.r.name++ [s] else ol n):=by
 obtain⟨v,w⟩:=JW.1 I;have y:(ws s).take (k+1)= (ws s).take k++ [u.tb]:=by rw[JX v,w]
 have one:∀t∈ts,t.r.name=u.r.name->t=u:=fun t A e=>by
  have a:=bI l (Le (f:=fun t:Zx=>t.r) A);have d:=bI l (Le (f:=fun t:Zx=>t.r) m);rw[e,d] at a;obtain⟨p,B,rfl⟩:=Kb A;obtain⟨j,C,rfl⟩:=Kb m;rcases Ls p j with g | g | g
  ·have:=Ka.1 l p j (by simpa[Qk] using B) (by simpa[Qk] using C) g;simp only[Qk,List.getElem_map] at this;exact Lv e (dA this)
  ·subst g;rfl
  ·have:=Ka.1 l j p (by simpa[Qk] using C) (by simpa[Qk] using B) g;simp only[Qk,List.getElem_map] at this;exact Lv e.symm (dA this)
 have J:u.tb∉(ws s).take k:=fun i=>by
  obtain⟨q,K,e⟩:=Kb i;rw[Kt] at K;rw[KM] at e;have:=Ka.1 H q k (by omega) v (by omega);exact this (e.trans w.symm)
 refine⟨fun x N=>?_,fun x=>?_,fun x=>?_⟩
 ·by_cases e:x=u.r.name
  ·simp only[Lt e];subst e;rw[JZ,JY,i.iff,y];constructor
   ·rintro ((a|⟨a,t,d,h,c⟩) | a)
    ·exact .inl a
    ·exact .inr ⟨a,t,d,h,JZ.2 (.inl c)⟩
    ·exact .inr ⟨a,u,m,rfl,JZ.2 (.inr (by simp))⟩
   ·rintro (a|⟨a,t,d,h,c⟩)
    ·exact .inl (.inl a)
    ·exact .inr a
  ·simp only[Lu e];rw[i.iff,y];constructor
   ·rintro (a|⟨a,t,d,h,c⟩)
    ·exact .inl a
    ·exact .inr ⟨a,t,d,h,JZ.2 (.inl c)⟩
   ·rintro (a|⟨a,t,d,h,c⟩)
    ·exact .inl a
    ·rcases JZ.1 c with c|c
     ·exact .inr ⟨a,t,d,h,c⟩
     ·rw[JY] at c;have:=pV G d m c;rw[this] at h;exact Lv h.symm e
 ·by_cases e:x=u.r.name
  ·simp only[Lt e];rw[List.nodup_append];refine⟨i.nd _,by simp,fun O D b E L=>?_⟩;rw[JY] at E;rw[L,E,i.iff] at D;rcases D with⟨a,_⟩ | ⟨_,t,d,h,c⟩
   ·exact F a
   ·rw[one t d h] at c;exact J c
  ·simp only[Lu e];exact i.nd x
 ·by_cases e:x=u.r.name
  ·simp only[Lt e];rw[KS];have:=i.len u.r.name;show _+1<=M+1;omega
  ·simp only[Lu e];have:=i.len x;omega
variable {left : Lit -> Bool} {cnt : Nat}
theorem vI{H:Type}{P:Program}{k:TypeId}{c:LQ->Option (DataW H×List MemPlace)}{w w':LP}{b r n:Nat}{D:DataW H}{S:Nat->Prop}(h:w.ranges P k c b r n D left cnt)(q:But S w w')(i:¬S b)(j:¬S r):w'.ranges P k c b r n D left cnt:=by
 obtain⟨l,m,p,s,t,e,v,x,y,f,A⟩:=h;exact⟨l,m,p,s,t,(q.block b (aO e) i).trans e,v,x,y,(q.block r (aO f) j).trans f,A⟩
theorem sW{H:Type}{P:Program}{k:TypeId}{a:LQ->Option (DataW H×List MemPlace)}{w:LP}{b r n:Nat}{D:DataW H}(h:w.ranges P k a b r n D left cnt){t:TypeId}:¬df w r t:=by
 obtain⟨d,f,i,j,l,_,_,_,_,c,_⟩:=h;rintro⟨m,p,e⟩;rw[c] at e;cases e
theorem Cf{H:Type}{P:Program}{k:TypeId}{a:LQ->Option (DataW H×List MemPlace)}{w:LP}{b r n:Nat}{D:DataW H}(h:w.ranges P k a b r n D left cnt){t:TypeId}:¬df w b t:=by
 obtain⟨d,f,i,j,l,c,_⟩:=h;rintro⟨m,p,e⟩;rw[c] at e;cases e
theorem BS.JL{b:List Qq}(h:BS b ts ws)(f:bT (Q_ b)){t:Zx}(c:t∈ts)(i:t.tb∈ws s):1<=s.size/\s.size<=20:=by
 have a:=(h.wt s t c).1 i;obtain⟨A,d,j,k⟩:=(h.good.good t.r (Le c)).act;unfold pend at a
 split at a
 ·cases a
 ·rw[d] at a;have e:=(iV (f _ _ d).1 j k).2 s (List.mem_filter.1 a).1;exact⟨e.1,e.2.1⟩
theorem Fq{a:LK}:(dw a).sameKey (dw s)=true↔a=s:=by
 constructor
 ·intro h;by_cases e:a=s
  ·exact e
  ·rw[Maps.sameKey_ne (jD e)] at h;cases h
 ·rintro rfl;simp[dw,Lit.sameKey]
def IQ(ts:List Zx)(ws:LK->List Nat)(w w':LP)(e:Ending):Prop:=
 ∃mo M g ol,e= .returned (.map (some mo))/\lH w' w.heap.size mo M g ol/\Bp ts ws M (fun _=>True) ol/\M<=600000/\K_ w w'
section
variable {G : bX} {Kq : List Qq} {wz w w' : LP} {bb : Nat} {a : LM} {cap : Nat} {rd : LM} {rn rc : Nat} {mb mx : Nat} {ts : List Zx} {d : LM} {dc : Nat} {f : LK -> LQ} {ws : LK -> List Nat}
theorem rC(O:BM G Kq wz w bb a cap rd rn rc mb mx ts d dc f ws)(hS:BS Kq ts ws)(c3:bT (Q_ Kq))(h1:mx<=9000)(h2:ts.length<=60):
  Calls prog 28 #[.pointer (some ⟨bb,0,none⟩)] w fun e w'=>IQ ts ws w w' e:=by
 obtain⟨W,D,hN,X,hf⟩:=O.map;have h5:=X.size_le;obtain⟨F,P⟩:=aj (w.alloc (.map #[] 0));have Q:K_ w F:=by rw[P];exact ag _ _
 have c4:Hid (lH F w.heap.size w.heap.size 0 (fun _=>.slice none 0 0) (fun _=>[])):=by rw[P];exact lH.made (JP _)
 have zM:F.heap.size=w.heap.size+1:=by rw[P];simp
 have HM:=Kz (il (S:=fun _=>False) X (But.aF Q) id);have c5:F.cell? ⟨bb,5,none⟩=some (.map (some mb)):=(O.kept Q).c5;have bz:bb<F.heap.size:=(O.kept Q).row.lt;have h6:mb<w.heap.size:=X.lt;have⟨J,R,HF⟩:=dK O hS hf;clear O hS X hf;have e6:(Instr.makeMap 58 none).run prog w= .ok (.map (some w.heap.size)) (w.alloc (.map #[] 0)):=rfl;go_enter func28,ntmps28
 go_upto_region 2 with fail
 clear e6;rw[<-P];clear P;go_wp2_with (first | (at_range;refine wpList_range_own _ rfl _ 110 rfl 9 102 Tryz.keyed underlying110 asIs mb W D rfl HM.o ?_;intro w0 a7 a8 c6))
 go_frame
 obtain⟨v,c7⟩:=aj F.heap.size;rw[<-c7] at a7 c6⊢;have K0:K_ w w0:=(But.aI (S:=fun _=>False) a8 (fun b e=>by cases e)).kept Q (fun b e=>e.elim);have c8:K_ F w0:=(But.aI (S:=fun _=>False) a8 (fun b e=>by cases e)).kept (K_.refl _) (fun b e=>e.elim);have Y:=Kz (c4.o.kept c8);obtain⟨y,Z⟩:=aj w.heap.size;have Y:Hid (lH w0 w.heap.size y 0 (fun _=>.slice none 0 0) (fun _=>[])):=by rw[Z];exact Y
 have h7:y<v:=by omega
 have h8:w.heap.size<v:=by omega
 rw[<-Z];have c9:Hid (w.heap.size<=y):=Kv Z.symm;clear Z c4 c8 a8 c6 c5 c7 zM Q HM;go_loopw [4] (fun _ wr=>∃(left:Lit->Bool) (a0 M:Nat) (g:LK->LQ) (k:LK->List LK),wr.ranges prog 9 asIs mb v W D left a0/\M+60*a0<=600000/\Hid (lH wr w.heap.size y M g k)/\Hid (Bp ts ws M (fun s=>Maps.has D (dw s)=true/\left (dw s)=false) k)/\K_ w wr) (fun _ wr=>wr.rangeLeft mb v)
 case atStart=>exact⟨_,_,0,_,_,a7,by omega,Y,Kz (Bp.start fun s h=>by have l:=h.1;have p:=h.2;rw[l] at p;cases p),K0⟩
 case round=>
  clear Y K0 a7;obtain⟨left,a0,M,g,k,a9,h9,q,T,Kr⟩:=hrel;go_wp2_with (first | (at_next;refine wpList_next_ranges (α:=LK) (β:=LQ) _ rfl _ rfl 9 Tryz.keyed asIs Value.string id (fun i0 kl hk=>by obtain⟨x,L,_⟩:=Maps.keyOf_str underlying9 hk;exact⟨_,L⟩) (fun e7 e8 U=>⟨e7,rfl⟩) mb v W D left a0 rfl a9 ?_ ?_))
  ·intro d0 e9;go_wp2
   go_ret
   refine⟨y,M,g,k,rfl,q.o,⟨fun x s=>?_,T.o.nd,T.o.len⟩,by omega,Kr⟩;rw[T.o.iff];refine⟨fun h=>⟨trivial,h.2⟩,fun h=>⟨⟨?_,e9 _⟩,h.2⟩⟩;obtain⟨i1,ht,_,b0⟩:=h.2;cases a1:Maps.has D (dw s)
   ·have a2:=(R.o.JL c3 ht b0).2;have l:=HF.o s (by unfold maxLen;omega);rw[Maps.atKey_of_not_has a1] at l;have p:f s= .slice none 0 0:=by injection l with l;exact l.symm
    have h3:=J.o.eT s;rw[p] at h3;rcases h3.2 with⟨_,h4⟩|⟨_,_,_,h4,_⟩
    ·rw[Kh.1 h4] at b0;cases b0
    ·cases h4
   ·rfl
  ·intro s c kl yd yp w1 b1 d1 d2 U b2 f0 f1 b3 f2 b4;have a2:s.size<=maxLen/\kl=dw s:=by
    obtain⟨x',e1,e2,e3⟩:=Maps.keyOf_str underlying9 d1;unfold encStr at e1;injection e1 with e1;subst e1;exact⟨by show x'.toArray.size<=maxLen;simpa using e3,by rw[e2];unfold dw;simp⟩
   obtain⟨a2,rfl⟩:=a2;have a3:c=f s:=by
    have l:=b2 (.held (.slice none 0 0));rw[HF.o s a2] at l;unfold asIs at U;simp only[KT,Prod.mk.injEq] at U;rw[<-U.1] at l;injection l with l;exact l.symm
   obtain⟨ua,uc,i⟩:=ax (J.o.eT s);rw[a3,i] at b4;have a1:Maps.has D (dw s)=true:=Maps.has_true_of_atKey b2;have K1:K_ w w1:=(But.aI (S:=fun b=>b=v) b3 (fun b e=>(Lf e).symm)).kept Kr (fun b e=>by rw[e];omega);have d3:=Kz (q.o.but (But.aI (S:=fun b=>b=v) b3 (fun b e=>(Lf e).symm)) (by omega) (fun s' b e e2=>by rw[e2] at e;exact sW a9 (Yz (q.o.row s') e)));have⟨Hu,i2,f3,f4⟩:=lg i a3 d2 a1;have f5:=R.o.Jn s;have d4:=Kz (T.o.enter s);rw[a3,i];clear i a3 d2 a1 U b2 d1 b3 f2 q;obtain⟨t,hn⟩:=aj ((ws s).length);rw[<-hn] at b4 f5⊢;have Hn:=Kz hn;clear hn;go_wp2_with fail
   clear b4;go_loopw [21] (fun xi wr=>∃(m M:Nat) (g:LK->LQ) (k:LK->List LK),m<=t/\xi= .int .i64 (m:Int)/\wr.ranges prog 9 asIs mb v W D (fun z=>left z && !z.sameKey (dw s)) b1/\M+ (t-m)+60*b1<=600000/\Hid (lH wr w.heap.size y M g k)/\Hid (Ay ts ws M (fun s=>Maps.has D (dw s)=true/\left (dw s)=false) s m k)/\K_ w wr) (fun xi _=>t-(intOf xi).toNat)
   case atStart=>exact⟨0,M,g,k,JR _,rfl,f0,by omega,d3,d4,K1⟩
   case round=>
    clear d3 d4 K1 T;obtain⟨m,M,g,k,hk,rfl,b5,i3,q,HJ,H⟩:=hrel;by_cases i4:m<t
    ·obtain⟨n,a4⟩:∃n,(ws s)[m]? =some n:=⟨_,JV (by have:=Hn.o;omega)⟩;obtain⟨u,i,a5⟩:=R.o.ww s n (Kg a4);have b6:=J.o.kept H;have hT:=b6.fO u i;have b7:=b6.eT s;rw[Hu.o,<-Hn.o] at b7;obtain⟨b,o,rfl,hb,d5⟩:=dP b7 m (by simp;have:=Hn.o;omega);have f6:wr.cell? ⟨b,o+m,none⟩=some (.pointer (some ⟨n,0,none⟩)):=by rw[d5 m (vY n) (by simp[a4])];rfl
     obtain⟨x,L⟩:=aj u.r.name;have n0:wr.cell? ⟨n,0,none⟩=some (.string x):=by rw[<-a5,L];exact hT.rng 0 _ rfl
     have d6:n<w.heap.size:=by rw[<-a5];exact (J.o.fO u i).row.lt
     have f7:n<wr.heap.size:=JQ d6 H.size;have b8:x.size<=maxLen:=by
      obtain⟨A,hA,_⟩:=(R.o.good.good u.r (Le i)).act;have:=(c3 _ _ hA).2.2.1;rw[L];unfold maxLen;omega
     obtain⟨va,vc,hg⟩:=ax (q.o.row x);have Hg:=Kz hg;have b9:Hid (∀w',K_ wr w'->w'.cell? ⟨n,0,none⟩=some (.string x)/\(Instr.lookup 58 (.map (some y)) (.string x) false).run prog w'= .ok (.slice va (k x).length vc) w'):=fun w' K=>⟨(K.cell f7).trans n0,by rw[<-Hg.o];exact (q.o.kept K).look b8⟩
     have i5:=HJ.o.len x;have f8:Hid (Ay ts ws (M+1) (fun s=>Maps.has D (dw s)=true/\left (dw s)=false) s (m+1) (fun t=>if t=x then k x++ [s] else k t)):=by
      rw[L];exact HJ.o.put (fun h=>by rw[f3.o] at h;exact Lv h.2 (by simp)) J.o.asc J.o.tbs (R.o.wn s) i (by rw[a5];exact a4)
     obtain⟨ic,d0,f9,g0,g1⟩:=aQ Tryz.bY;have i6:=H.size;have i7:(m:Int)<(t:Int):=by omega
     clear hT b6 b7 d5 hg a4 a5 L;go_upto_region 8 with fail
     clear f6 n0;refine bf 16 b9.o fun I KD N=>?_
     refine au 0 N ?_;refine au 4 N ?_;refine au 8 N ?_;refine af 12 N ?_;refine af 13 N ?_;refine ah 14 (fun K B=>?_);go_simp
     have K5:K_ I (I.alloc (.cells #[.string s] 9)):=ag _ _;have c0:(I.alloc (.cells #[.string s] 9)).cell? ⟨I.heap.size,0,none⟩=some (.string s):=Xz I #[.string s] 9 0 _ rfl;have C:=KD.trans K5;refine B.out _ _ (fun _=>b9.o _ C) ?_;clear B K N;have E:=Kz (q.o.kept C);obtain⟨eb,d7⟩:=aj I.heap.size;rw[<-d7] at c0⊢;generalize g2:I.alloc (.cells #[.string s] 9)=w6 at c0 C E⊢;clear g2 K5 d7;have c1:=E.o.row x;rw[Hg.o] at c1;have g3:=Kz c1;have g4:w.heap.size<=w6.heap.size:=(H.trans C).size;clear c1;try simp only[upP]
     refine ah 15 (fun K B=>?_);refine step_append_lies _ rfl (.tmp 37) (.tmp 39) 26 rfl w.heap.size 9 ic _ 1 16 underlying26 d0 f9 g0 g1 rfl (by decide) (.slice va (k x).length vc) (k x).length ((k x).map Value.string) rfl g3.o ⟨eb,0,none⟩ 1 1 [.string s] rfl rfl (fun j u i=>?_) (fun u i=>?_) (by decide) (by unfold maxLen;omega) (by omega) g4 w6.heap.size rfl ?_
     ·match j,i with
      | 0,i=>simp at i;subst i;rw[KZ];exact c0
      | j+1,i=>simp at i
     ·simp at i;subst i;rfl
     intro gb gc w7 d8 V c2 i8;rw[<-Hg.o] at V c2;obtain⟨w8,g5,d9,e0⟩:=E.o.put (s:=x) (x:=s) b8 d8 V (fun e8 e=>by simp only[Value.ownBlock,KT] at e;subst e;rcases c2 with h | h;exact .inl h;exact .inr (Kv h.symm)) (by omega);have⟨g6,e4⟩:=aH d9 e0;have e5:But (fun b=>(g x).ownBlock=some b) w6 w7:=But.aI V (fun b e=>e);have g7:n<w6.heap.size:=JQ d6 (H.trans C).size;have g8:Hid (w7.cell? ⟨n,0,none⟩=some (.string x)/\(Instr.lookup 58 (.map (some y)) (.string x) false).run prog w7= .ok (.slice va (k x).length vc) w7):=by
      exact⟨(e5.cell g7 (fun e=>by have:=((E.o.row x).lt n e).1;omega)).trans (b9.o _ C).1,by have h:=E.o.qa (s:=x) b8 V;rw[Hg.o] at h;exact h⟩
     refine ae B (fun _=>g8.o) ?_;clear B K d9 d8 V c2 e5 e0;refine ah 16 (fun K B=>?_);go_simp
     refine ae B (fun h=>Lv rfl h) ?_;clear B K;refine aB ?_;have K8:K_ w w8:=e4.o.kept (H.trans C) (fun b e=>by
      rcases e with e|e
      ·exact ((E.o.row x).lt b e).1
      ·rw[e];exact c9.o)
     have a6:=vI (S:=fun _=>False) b5 (But.aF C) id id;have g9:=vI a6 e4.o (fun e=>by
      rcases e with e|e
      ·exact Cf a6 (Yz (E.o.row x) e)
      ·have:=c9.o;omega) (fun e=>by
      rcases e with e|e
      ·exact sW a6 (Yz (E.o.row x) e)
      ·omega)
     clear a6 g5;go_wp2
     go_roundw
     case rel=>exact⟨m+1,M+1,_,_,by omega,by go_num,g9,by omega,g6,f8,K8⟩
     case measure=>simp[intOf];omega
    ·have h0:m=t:=by omega
     go_wp2
     go_roundw
     case rel=>
      refine⟨_,b1,M,g,k,b5,by omega,q,Kz (HJ.o.leave (by rw[h0,Hn.o];exact JP _) (fun s'=>?_)),H⟩;constructor
      ·rintro⟨l,p⟩;by_cases e:s'=s
       ·exact .inr e
       ·refine .inl ⟨l, ?_⟩;have h3:(dw s').sameKey (dw s)=false:=Maps.sameKey_ne (jD e);rw[h3] at p;simpa using p
      ·rintro (⟨l,p⟩|rfl)
       ·exact⟨l,by rw[p];rfl⟩
       ·exact⟨f4.o,by rw[Fq.2 rfl];simp⟩
     case measure=>rw[b5.left_eq,a9.left_eq];exact f1
end
open Go.RowKit Go.Shelf
attribute [local go_sem] Oper.semAt_some
def GH(B:Nat)(d:LM)(tx:Nat->LK)(i:Nat)(W:LP):Prop:=∃b o,d=some ⟨b,o,none⟩/\b<B/\W.cell? ⟨b,o+i,none⟩=some (.string (tx i))
theorem yM(B a:Nat)(d:LM)(f n:Nat)(b:Nat->LK)(r:n<=1048576):
  Gm prog 68 #[.pointer (some ⟨a,0,none⟩)] (fun i=>#[.string (b i)]) (GH B d b) (fun _ _=>False) n (fun W=>W.cell? ⟨a,0,none⟩=some (.slice d n f)):=by
 intro y J s W t c j;refine callsIn_of_wp func68 rfl trivial ?_ rfl;simp only[ntmps68,List.size_toArray,KY,List.length_nil,Nat.reduceAdd,Nat.reduceSub,Array.replicate_succ,Array.replicate_zero,List.push_toArray,List.append_toArray,List.nil_append,List.cons_append];have k:=Kz c;clear c
 gi_wp2
 gi_loopw [7] (fun x wr=>∃i:Nat,i<=n/\x= .int .i64 i/\J i wr) (fun x _=>n-(intOf x).toNat)
 case atStart=>exact⟨0,JR _,rfl,j⟩
 case round=>
  obtain⟨i,v,rfl,e⟩:=hrel;by_cases l:i<n
  ·rcases k.o i wr l e with⟨⟨w,o,rfl,_,A⟩,C,D,E,F,G,m⟩|⟨h,_⟩
   ·gi_wp2
    refine m.mono ?_;rintro H I (⟨rfl,p⟩|⟨rfl,q⟩)
    ·gi_wp2
     go_roundw
     case rel=>exact⟨i+1,by omega,by go_num,p⟩
     case measure=>simp[intOf];omega
    ·gi_wp2
     refine bodyPost_ret (results_none rfl _ _ _) rfl ?_;exact⟨⟨_,rfl⟩,.inr q⟩
   ·exact h.elim
  ·gi_wp2
   go_end0
   have:i=n:=by omega
   subst this;exact⟨⟨_,rfl⟩,.inl e⟩
def AqI(w1:LP)(c:Nat)(l:List LK)(i:Nat)(W:LP):Prop:=
 K_ w1 W/\c<W.heap.size/\∃v:LQ,W.cell? ⟨c,0,none⟩=some v/\W.frozen? ⟨c,0,none⟩=false/\W.ownsRow (c+1) 9 1 v (l.take i).length ((l.take i).map Value.string)
theorem AqI.calm{w1:LP}{c:Nat}{l:List LK}{i B:Nat}(s:w1.heap.size<=c)(t:c<B):Calm B (AqI w1 c l i):=by
 constructor
 ·rintro W o w ⟨k,a,v,h,j,d⟩;have f:=(K_.refl W).alloc o;exact⟨k.trans f,by rw[KR];omega,v,(f.cell a).trans h,(f.rules.2 c 0 a).trans j,(But.aF (S:=fun _=>False) f).owns d (fun _ _=>id)⟩
 ·rintro W y o m x p q ⟨k,a,v,h,j,d⟩;have n:But (fun b=>b=y) W (W.putObj y m):=⟨rfl,rfl,rfl,by rw[World.putObj_size];exact JP _,fun b _ e=>World.putObj_heap_other e⟩;refine⟨n.kept k (fun b e=>by rw[e];omega),by rw[World.putObj_size];exact a,v,(ko m (by omega)).trans h,(vJ m (by omega)).trans j,n.owns d (fun b r e=>?_)⟩;have:=jZ (Yz d r) (by rw[e];exact p);rw[q] at this;cases this
theorem su{B:Nat}{v:LQ}{c o:Nat}(h:c<B):Calm B (fun W=>W.cell? ⟨c,o,none⟩=some v):=by
 constructor
 ·intro W d i a;obtain⟨j,e,_⟩:=cells_of_cell a;exact (((K_.refl W).alloc d).cell (aO e)).trans a
 ·intro W y d f l m n a;exact (ko f (by omega)).trans a
theorem BQ{B:Nat}{d:LM}{k:Nat->LK}{i C:Nat}(h:B<=C):Calm C (GH B d k i):=by
 constructor
 ·rintro W c l ⟨b,o,rfl,a,f⟩;exact⟨b,o,rfl,a,(su (JQ a h)).1 W c l f⟩
 ·rintro W y c n p q r ⟨b,o,rfl,a,f⟩;exact⟨b,o,rfl,a,(su (JQ a h)).2 W y c n p q r f⟩
theorem Aq :∃ic,prog.info? 9=some ic/\ic.zero=some (.string ByteArray.empty)/\ic.size=1/\ic.bytes=16:=info_parts Tryz.DF
theorem xn(w:LP)(q:Nat)(d:LM)(a0:Nat)(l:List LK)(hn:l.length<=1048576)(a8:q<w.heap.size)(hc:w.cell? ⟨q,0,none⟩=some (.slice d l.length a0))(hS:Strs w d l):
  Calls prog 109 #[.slice none 0 0,.func (.func 68) #[] #[.pointer (some ⟨q,0,none⟩)]] w fun e w'=>∃v,e= .returned v/\w'.ownsRow w.heap.size 9 1 v l.length (l.map Value.string)/\K_ w w':=by
 refine (callsIn_wide (n:=9)).1 ?_;refine callsIn_of_wp_marks func109 rfl trivial ?_ rfl;simp only[ntmps109,List.size_toArray,KY,List.length_nil,Nat.reduceAdd,Nat.reduceSub,Array.replicate_succ,Array.replicate_zero,List.push_toArray,List.append_toArray,List.nil_append,List.cons_append]
 gi_wp2_with fail
 obtain⟨r,B⟩:∃r,w.alloc (.cells #[.slice none 0 0] 26)=r:=⟨_,rfl⟩;rw[B];have K0:K_ w r:=by rw[<-B];exact ag _ _
 have z0:r.heap.size=w.heap.size+1:=by rw[<-B];simp
 obtain⟨q0,q1,_⟩:=Je (w:=w) (v:= .slice none 0 0) (t:=26) (w1:=r) (by rw[B];exact K_.refl _);have G:=(K0.cell a8).trans hc;obtain⟨k,T⟩:∃k:Nat->LK,∀i,k i=l.getD i ByteArray.empty:=⟨_,fun _=>rfl⟩;have a9:Hid (∀i W,i<l.length->K_ w W->GH w.heap.size d k i W):=fun i W C a1=>by
  obtain⟨b,o,e,H,b0⟩:=hS i C;exact⟨b,o,e,H,by rw[T];exact (a1.cell H).trans b0⟩
 have b1:=Kz T;clear T;refine Az (yM w.heap.size q d a0 l.length k hn) rfl (enters_of func68 (by kernel_rfl) rfl) (su (by omega)) G (fun _=>rfl)
  (AqI w w.heap.size l) (fun _ _=>False) (fun i=>AqI.calm (JP _) (by omega)) (fun _=>vH _)
  ⟨K0,by omega,.slice none 0 0,q0,q1,by rw[List.take_zero];exact Ld _ _ _ _⟩
  (fun i=>{tmps:= #[.slice none 0 0,.func (.func 68) #[] #[.pointer (some ⟨q,0,none⟩)],.pointer (some ⟨w.heap.size,0,none⟩),undef,.slice none 0 0,.string (k i),.func (.func 68) #[] #[.pointer (some ⟨q,0,none⟩)],.string (k i),undef,undef,undef,undef,undef],defers:=[]}) ?assign ?calm ?step ?done ?stop
 case assign=>
  intro b2 i W a1 hK
  gi_wp2
  exact hK
 case calm=>exact fun i=>BQ (by omega)
 case stop=>
  intro D c W _ b3 _;exact b3.elim
 case step=>
  rintro i W C ⟨s,x,v,E,I,h⟩;refine .inl ⟨a9.o i W C s, ?_⟩;clear h I E v x s;clear W;rintro b2 W _ ⟨s,x,v,E,I,h⟩ c6;obtain⟨J,K,rfl⟩:=ax h;obtain⟨f,L⟩:=aj (l.take i);have c7:f.length<=1048576:=by rw[L,Kt];omega
  rw[<-L] at h E;obtain⟨j,U⟩:=aj (k i);rw[<-U];have b4:Hid (l.take (i+1)=f++ [j]):=by
   show l.take (i+1)=f++ [j];rw[JX C,L,U,b1.o];simp[List.getD,C]
  have H3:=Kz h;clear h q0 q1 G B U L;obtain⟨ic,G,b5,b6,b7⟩:=Aq;have b8:w.heap.size+1<=W.heap.size:=by omega
  obtain⟨V,y⟩:=aj (W.alloc (.cells #[.string j] 9));have M:K_ W V:=by rw[y];exact ag _ _
  have N:=Kz M;have A:=Kz ((But.aF (S:=fun _=>False) M).owns H3.o (fun _ _=>id));have a2:w.heap.size+1<=V.heap.size:=JS b8 M.size;have a3:Hid (∀O u,([.string j]:List LQ)[O]? =some u->V.cell? ((⟨W.heap.size,0,none⟩:Addr).add O)=some u):=fun O u P=>by rw[KZ,y];exact Xz W #[.string j] 9 O u P
  have b9:Hid (∀u∈([.string j]:List LQ),u.oneCell'=true):=fun u P=>by simp only[Lb,Lc,or_false] at P;subst P;rfl
  have c0:Hid (KeepsOthers W V):=by rw[y];exact KeepsOthers.alloc _ _
  rw[y] at A a3 a2;have HV:=Kz y;clear M y
  gi_wp2_with (gi_at_builtin;refine wpListIn_append_own _ rfl (.tmp 8) (.tmp 10) 26 rfl (w.heap.size+1) 9 ic _ 1 16 underlying26 G b5 b6 b7 rfl (by decide) (.slice J f.length K) f.length (f.map Value.string) rfl A.o ⟨W.heap.size,0,none⟩ 1 1 [.string j] rfl rfl a3.o b9.o (by unfold maxLen;omega) (by omega) a2 ?_;intro v' m X Q _;rw[<-HV.o] at Q A;have R:∀b,(Value.slice J f.length K).ownBlock=some b->w.heap.size+1<=b:=fun b e=>(A.o.lt b e).1;have F:But (fun b=>(Value.slice J f.length K).ownBlock=some b) V m:=But.aI Q (fun b e=>e);have Y:w.heap.size<V.heap.size:=JQ x N.o.size;have s9:m.cell? ⟨w.heap.size,0,none⟩=some (.slice J f.length K):=(F.cell Y (fun e=>by have:=R _ e;omega)).trans ((N.o.cell x).trans E);have f9:m.frozen? ⟨w.heap.size,0,none⟩=false:=(World.frozen?_of_block (w:=V) (a:=⟨w.heap.size,0,none⟩) (F.block w.heap.size Y (fun e=>by have:=R _ e;omega))).trans ((N.o.rules.2 _ _ x).trans I);have z9:w.heap.size<m.heap.size:=JQ Y F.size;have c1:=Kz (F.kept (s.trans N.o) (fun b e=>by have:=R b e;omega));have c2:=Kz (c0.o.trans (KeepsOthers.of_grownBy Q (fun b o e ho=>jZ (Yz A.o e) ho)));have c3:=Kz X;obtain⟨a4,a5,rfl⟩:=ax X;clear X Q F R HV A)
  have c4:Hid (KeepsFrom r.heap.size W (m.setCell ⟨w.heap.size,0,none⟩ (.slice a4 (f.length+1) a5))):=(c2.o.trans (KeepsOthers.setCell _ _ _)).from _
  refine⟨c4.o,c1.out.setCell (JP _) _,by rw[size_setCell];exact z9,_,Ll _ _ _ s9,by rw[World.frozen?_setCell];exact f9, ?_⟩;have HO:m.ownsRow (w.heap.size+1) 9 1 (.slice a4 (f.length+1) a5) (f++ [j]).length ((f++ [j]).map Value.string):=by rw[KS,LA];exact c3.o
  rw[b4.o];exact (But.set (S:=fun b=>b=w.heap.size) (But.aF (K_.refl m)) (p:=⟨w.heap.size,0,none⟩) rfl _).owns HO (fun b e c8=>by have:=(HO.lt b e).1;omega)
 case done=>
  rintro D W hD ⟨s,x,v,E,I,h⟩ a6;rw[KI] at h;have c5:w.heap.size<=D:=by omega
  have Z:But (fun b=>b=D) W (W.putObj D (.deferred none)):=⟨rfl,rfl,rfl,by rw[World.putObj_size];exact JP _,fun b _ e=>World.putObj_heap_other e⟩;have a7:Hid (K_ w (W.putObj D (.deferred none))/\(W.putObj D (.deferred none)).ownsRow w.heap.size 9 1 v l.length (l.map Value.string)):=by
   refine⟨Z.kept s (fun b e=>by rw[e];exact c5),bC (Z.owns h (fun b H e=>?_)) (by omega)⟩;have:=jZ (Yz h H) (by rw[e];exact a6);cases this
  clear h Z
  gi_wp2
  exact⟨by simp,.inl ⟨_,_,rfl,run_takeDeferred a6,_,results_tmp rfl _ _ _,v,rfl,a7.o.2,a7.o.1⟩⟩
theorem AY(w:LP)(a:Nat)(d:LM)(b:Nat)(l:List LK)(f:l.length<=1048576)(h:a<w.heap.size)(i:w.cell? ⟨a,0,none⟩=some (.slice d l.length b))(j:Strs w d l):
  Calls prog 66 #[.func (.func 68) #[] #[.pointer (some ⟨a,0,none⟩)]] w fun e w'=>∃v,e= .returned v/\w'.ownsRow w.heap.size 9 1 v l.length (l.map Value.string)/\K_ w w':=by
 go_enter func66,ntmps66
 go_wp2_with fail
 refine (xn w a d b l f h i j).mono ?_;rintro e w1 ⟨v,rfl,c,k⟩;have m:=Kz c;clear c;go_wp2
 go_ret
 exact⟨v,rfl,m.o,k⟩
theorem uX(w:LP)(d:LM)(n a:Nat):
  Calls prog 32 #[.slice d n a] w fun e w'=>e= .returned (.func (.func 68) #[] #[.pointer (some ⟨w.heap.size,0,none⟩)])/\w'=w.alloc (.cells #[.slice d n a] 26):=by
 go_enter func32,ntmps32
 go_wp2
 go_ret
 exact⟨rfl,rfl⟩
open Go.RowKit Go.Sort
def t_(l ns:List LK):Prop:=ns.Perm l/\ns.Pairwise fun a b=>¬aP b a
theorem t_.asc{l a:List LK}(h:t_ l a)(d:l.Nodup):iI a/\∀s,s∈a↔s∈l:=by
 refine⟨?_,fun s=>h.1.mem_iff⟩;have e:a.Nodup:=h.1.nodup_iff.2 d;unfold iI;exact (h.2.and e).imp fun {f b} c=>by
  rcases dI f b with g|g|g
  ·exact g
  ·exact Lv g c.2
  ·exact Lv g c.1
theorem vv(l:List LK):t_ l (((l.map fun s=>s.data.toList).mergeSort fun x y=>decide (x<=y)).map fun x=>(⟨x.toArray⟩:LK)):=by
 constructor
 ·have h:=(List.mergeSort_perm (l.map fun s=>s.data.toList) (fun x y=>decide (x<=y))).map (fun x:List UInt8=>(⟨x.toArray⟩:LK));rw[List.map_map] at h;have j:((fun x:List UInt8=>(⟨x.toArray⟩:LK)) ∘ fun s:LK=>s.data.toList)=id:=by
   funext s
   simp
  rw[j,List.map_id] at h;exact h
 ·rw[List.pairwise_map];have h:=List.pairwise_mergeSort (le:=fun x y:List UInt8=>decide (x<=y)) (fun a b c d e=>by
   simp only[LC] at d e⊢;exact List.le_trans d e) (fun a b=>by
   simp only[Bool.or_eq_true,LC];exact List.le_total a b) (l.map fun s=>s.data.toList)
  refine h.imp fun {a b} f=>?_
  simp only[LC] at f;unfold aP;rw[bytesLess_eq];simp only[LC];have i:∀x:List UInt8,(⟨x.toArray⟩:LK).toList=x:=fun x=>by simp[ByteArray.toList_eq]
  rw[i,i];exact List.not_lt.2 f
theorem Ee(l:List LK):(l.map fun s=>s.data.toList).map encStr=l.map Value.string:=by
 rw[List.map_map];apply List.map_congr_left;intro s _;simp[encStr]
theorem uN(w:LP)(f:Nat)(d:LM)(r:Nat)(l:List LK)(I:l.length<=1048576)(J:f<w.heap.size)(K:w.cell? ⟨f,0,none⟩=some (.slice d l.length r))(L:Strs w d l):
  Calls prog 31 #[.func (.func 68) #[] #[.pointer (some ⟨f,0,none⟩)]] w fun e w'=>∃v ns,e= .returned v/\w'.ownsRow w.heap.size 9 1 v ns.length (ns.map Value.string)/\t_ l ns/\K_ w w':=by
 go_enter func31,ntmps31
 go_wp2_with fail
 refine (AY w f d r l I J K L).mono ?_;rintro e w1 ⟨v,rfl,h,s⟩;have X:=Kz h;rcases h.2 with⟨rfl,M⟩|⟨g,t,Y,rfl,A,i,N,B,C,D⟩
 ·clear h;go_wp2_with fail
  refine (Tryz.slices_Sort_string_none none 0 w1).mono ?_;rintro e w2 ⟨rfl,b⟩;rw[b];clear b w2;go_wp2
  go_ret
  have O:l=[]:=Kh.1 M;refine⟨_,[],rfl,Ld _ _ _ _,by rw[O];exact⟨List.Perm.refl _,List.Pairwise.nil⟩,s⟩
 ·obtain⟨a,j⟩:=aj (l.map fun P=>P.data.toList);have k:a.length=l.length:=by rw[j];simp
  have E:Holds encStr w1 g 0 a.toArray:=holds_of_block i (by rw[k,j,Ee];simpa using D);have F:=Kz (Tryz.slices_Sort_string g 0 t a w1 E (aO i) (by omega));have Q:Hid (∀n c,w1.grownBy (grow (putRow encStr (Sort.ahead w1 n) g 0 (a.mergeSort fun x y=>decide (x<=y)).toArray) c) (some g)/\(grow (putRow encStr (Sort.ahead w1 n) g 0 (a.mergeSort fun x y=>decide (x<=y)).toArray) c).ownsRow w.heap.size 9 1 (.slice (some ⟨g,0,none⟩) a.length t) a.length ((a.mergeSort fun x y=>decide (x<=y)).map encStr)):=fun n c=>⟨grownBy_sorted _,ownsRow_sorted (by simp) A i (by omega) B (by simpa using C)⟩
  rw[k] at F;have⟨R,G⟩:=aH j k;clear h D C B N i E j k;go_wp2_with fail
  refine F.o.mono ?_;rintro e w2 ⟨rfl,n,c,b⟩;obtain⟨p,m⟩:=Q.o n c;rw[<-b] at p m;rw[G.o] at m;have⟨T,U⟩:=aH p m;clear p m b;go_wp2
  go_ret
  have H:=vv l;rw[<-R.o] at H;have V:((a.mergeSort fun x y=>decide (x<=y)).map fun x=>(⟨x.toArray⟩:LK)).length=l.length:=by simp[G.o]
  have W:((a.mergeSort fun x y=>decide (x<=y)).map fun x=>(⟨x.toArray⟩:LK)).map Value.string= (a.mergeSort fun x y=>decide (x<=y)).map encStr:=by rw[List.map_map];rfl
  refine⟨_,_,rfl,by rw[V,W];exact U.o,H, ?_⟩;exact (But.aI (S:=fun q=>q=g) T.o (fun q e=>(Lf e).symm)).kept s (fun q e=>by rw[e];exact A)
theorem Ci{w:LP}{C N:Nat}{D:DataW LQ}(h:w.ownsMap prog 9 asIs C N D){d:List (List UInt8)}(j:d.Perm (strKeys D)):
  ∃nm:List LK,nm.length=d.length/\nm.map Value.string= (d.mergeSort fun x y=>decide (x<=y)).map encStr/\iI nm/\∀s,s∈nm↔Maps.has D (dw s)=true:=by
 obtain⟨b,A,E,_⟩:=h.entries Tryz.keyed;obtain⟨F,B,G⟩:=h.keysOf;obtain rfl:b=F:=by rw[A] at B;simpa using B
 subst A;have k:∀p∈b,∃x,p.1= .string x:=fun p j=>by obtain⟨v,H⟩:=G p j;obtain⟨x,_,I,_⟩:=Maps.keyOf_str underlying9 H;exact⟨x,I⟩
 have J:(strKeys (.map b)).Nodup:=by
  refine List.pairwise_map.2 (E.imp_of_mem fun {p K} c L n e=>n ?_);obtain⟨a,f⟩:=k p c;obtain⟨M,O⟩:=k K L;rw[f,O] at e⊢;exact congrArg _ e
 have P:∀x,x∈strKeys (.map b)↔Maps.has (.map b) (.string x)=true:=fun x=>by
  rw[Maps.has_eq,List.any_eq_true];show x∈b.map (fun p=>strOf p.1)↔_;rw[Ku];constructor
  ·rintro⟨p,c,rfl⟩;obtain⟨a,f⟩:=k p c;exact⟨p,c,by rw[f];simp[Lit.sameKey,strOf]⟩
  ·rintro⟨p,c,i⟩;obtain⟨a,f⟩:=k p c;rw[f] at i;exact⟨p,c,by rw[f];simpa[Lit.sameKey,strOf] using i⟩
 obtain⟨l,Q⟩:∃l:List LK,l=d.map fun x=>(⟨x.toArray⟩:LK):=⟨_,rfl⟩
 have q:(l.map fun s=>s.data.toList)=d:=by
  rw[Q,List.map_map];have e:((fun s:LK=>s.data.toList) ∘ fun x:List UInt8=>(⟨x.toArray⟩:LK))=id:=by funext x;simp
  rw[e,List.map_id]
 have i:=vv l;rw[q] at i;have R:l.Nodup:=by
  have m:d.Nodup:=j.nodup_iff.2 J;rw[<-q] at m;exact (List.pairwise_map.1 m).imp fun {a M} n e=>n (by rw[e])
 obtain⟨m,S⟩:=i.asc R;refine⟨_,by simp,by rw[List.map_map];rfl,m,fun s=>?_⟩;rw[S];show s∈l↔Maps.has (.map b) (.string s.data.toList)=true;rw[<-P,<-j.mem_iff,<-q];constructor
 ·intro r;exact Le r
 ·intro r;obtain⟨t,T,U⟩:=Ku.1 r;have:t=s:=by
   have V:t.data=s.data:=by have:=congrArg List.toArray U;simpa using this
   cases t;cases s;simp_all
  rw[<-this];exact T
structure si (w:LP) (mo:Nat) (kp:LK->Prop) (ol:LK->List LK):Prop where
 map:∃N D,N<=1000000/\w.ownsMap prog 9 asIs mo N D/\(∀s:LK,s.size<=maxLen->∃a c,D.atKey (dw s) (.held (.slice none 0 0))= .held (.slice a (ol s).length c)/\Strs w a (ol s))/\∀s:LK,Maps.has D (dw s)=true↔kp s
 sub:∀s,ol s≠[]->kp s
theorem si.look{w w':LP}{e:Nat}{h:LK->Prop}{b:LK->List LK}(i:si w e h b)(k:K_ w w'){s:LK}(f:s.size<=maxLen):∃a c,(Instr.lookup 58 (.map (some e)) (.string s) false).run prog w'= .ok (.slice a (b s).length c) w'/\Strs w' a (b s):=by
 obtain⟨N,D,_,j,l,_⟩:=i.map;have m:=il (S:=fun _=>False) j (But.aF k) id;obtain⟨v,y,p,d⟩:=m.lookup Tryz.keyed underlying58 (Tryz.Db w') (zd:= .held (.slice none 0 0)) (zp:=[]) rfl (WideMaps.keyOf_string_mk underlying9 f);obtain⟨a,c,q,r⟩:=l s f;refine⟨a,c, ?_,r.kept k⟩;unfold asIs at d;simp only[KT,Prod.mk.injEq] at d;have t:(DataW.held v:DataW LQ)= .held (.slice a (b s).length c):=d.1.trans q;cases t;exact p
def CE(k:Nat):Nat:=k*1000000
theorem DL(k:Nat):CE (k+1)=CE k+1000000:=by unfold CE;omega
theorem Dq{k:Nat}(h:k<=60):CE k<=60000000:=by unfold CE;omega
def Fs(kp:LK->Prop)(ol:LK->List LK)(w w':LP)(e:Ending):Prop:=
 ∃(na:LM) (nc:Nat) (nm:List LK) (nb mb M:Nat) (need back:Nat->List Nat),e= .returned (.agg #[.slice na nm.length nc,.slice (some ⟨nb,0,none⟩) nm.length nm.length,.slice (some ⟨mb,0,none⟩) nm.length nm.length])/\iI nm/\(∀s,s∈nm↔kp s)/\pq w' na nm nb mb need back/\vM (fun x y=>y∈ol x) nm M need back/\M<=60000000/\K_ w w'
structure ObM (u:LP) (ob:Nat) (na:LM) (nc n nb mb:Nat):Prop where
 c0:u.cell? ⟨ob,0,none⟩=some (.slice na n nc)
 c1:u.cell? ⟨ob,1,none⟩=some (.slice (some ⟨nb,0,none⟩) n n)
 c2:u.cell? ⟨ob,2,none⟩=some (.slice (some ⟨mb,0,none⟩) n n)
 ty:df u ob 68
variable {mb n nb nc ob : Nat} {na : LM} {u : LP}
theorem ObM.lt(h:ObM u ob na nc n nb mb):ob<u.heap.size:=by
 obtain⟨c,f,b⟩:=h.ty;exact aO b
theorem ObM.but{S:Nat->Prop}{b:LP}(h:ObM u ob na nc n nb mb)(k:But S u b)(a:¬S ob):ObM b ob na nc n nb mb:=
 ⟨(k.cell h.lt a).trans h.c0,(k.cell h.lt a).trans h.c1,(k.cell h.lt a).trans h.c2,by
  obtain⟨c,f,d⟩:=h.ty;exact⟨c,f,(k.block _ h.lt a).trans d⟩⟩
theorem ObM.kept{a:LP}(h:ObM u ob na nc n nb mb)(k:K_ u a):ObM a ob na nc n nb mb:=h.but (S:=fun _=>False) (But.aF k) id
def TabJ(w2:LP)(na:LM)(nc n:Nat)(a b:Act)(u:LP):Prop:=
 ∃ob nb mb,b= {a with tmps:=((((((((a.tmps.setIfInBounds 14 (.slice na n nc)).setIfInBounds 15 (.slice na n nc)).setIfInBounds 16 (.int .i64 (n:Int))).setIfInBounds 17 (.slice (some ⟨nb,0,none⟩) n n)).setIfInBounds 18 (.slice na n nc)).setIfInBounds 19 (.int .i64 (n:Int))).setIfInBounds 20 (.slice (some ⟨mb,0,none⟩) n n)).setIfInBounds 21 (.agg #[.slice na n nc,.slice (some ⟨nb,0,none⟩) n n,.slice (some ⟨mb,0,none⟩) n n])).setIfInBounds 4 (.pointer (some ⟨ob,0,none⟩))}/\
  ObM u ob na nc n nb mb/\u.rowIs nb 52 n (fun _=>.slice none 0 0)/\u.rowIs mb 52 n (fun _=>.slice none 0 0)/\nb≠mb/\w2.heap.size<=nb/\w2.heap.size<=mb/\K_ w2 u
theorem pu{b:Nat}{t:TypeId}{v:LQ}(h:u.heap[b]? =some (.cells (madeCells #[v] n) t)):u.rowIs b t n (fun _=>v):=by
 obtain⟨c,a,d⟩:=World.rowIs_made u v n t;rw[heap_alloc_new] at a;cases a;exact⟨_,h,d⟩
theorem bu(w2:LP)(a b c:Obj):((((w2.alloc a).alloc b).alloc c).drew).heap[w2.heap.size]? =some a/\((((w2.alloc a).alloc b).alloc c).drew).heap[w2.heap.size+1]? =some b/\((((w2.alloc a).alloc b).alloc c).drew).heap[w2.heap.size+1+1]? =some c/\K_ w2 (((w2.alloc a).alloc b).alloc c).drew:=by
 have e:=heap_alloc_new w2 a;have d:=heap_alloc_new (w2.alloc a) b;have f:=heap_alloc_new ((w2.alloc a).alloc b) c;rw[KR] at d;rw[KR,KR] at f;have h:K_ ((w2.alloc a).alloc b) (((w2.alloc a).alloc b).alloc c).drew:=(ag _ _).drew;have i:K_ (w2.alloc a) (((w2.alloc a).alloc b).alloc c).drew:=((ag _ _).alloc _).drew;exact⟨(i.block _ (aO e)).trans e,(h.block _ (aO d)).trans d,f,(((ag _ _).alloc _).alloc _).drew⟩
theorem jE{w2:LP}(a:u.heap[ob]? =some (.cells #[.slice na n nc,.slice (some ⟨nb,0,none⟩) n n,.slice (some ⟨mb,0,none⟩) n n] 68))(b:u.heap[nb]? =some (.cells (madeCells #[.slice none 0 0] n) 52))(h2:u.heap[mb]? =some (.cells (madeCells #[.slice none 0 0] n) 52))(c:nb≠mb)(d:w2.heap.size<=nb)(e:w2.heap.size<=mb)(k:K_ w2 u):
  ObM u ob na nc n nb mb/\u.rowIs nb 52 n (fun _=>.slice none 0 0)/\u.rowIs mb 52 n (fun _=>.slice none 0 0)/\nb≠mb/\w2.heap.size<=nb/\w2.heap.size<=mb/\K_ w2 u:=
 ⟨⟨by simp[World.cell?,a],by simp[World.cell?,a],by simp[World.cell?,a],⟨_,_,a⟩⟩,pu b,pu h2,c,d,e,k⟩
theorem Tryz.E_ :(prog.info? 68).map (·.size)=some 3:=by kernel_rfl
theorem Tryz.GI :(prog.info? 3).map (fun i=>(i.zero,i.size,i.bytes))=some (some (.int .i64 0),1,8):=by kernel_rfl
theorem Tryz.GU :(prog.info? 52).map (fun i=>(i.zero,i.size,i.bytes))=some (some (.slice none 0 0),1,24):=by kernel_rfl
theorem tC(w:LP)(mo:Nat)(kp:LK->Prop)(Q:LK->List LK)(all:List LK)(m9:∀s,kp s->s∈all)(n0:all.length<=60)(n1:∀s,kp s->s.size<=20)(n2:∀s,(Q s).length<=1000000)(hL:si w mo kp Q):
  Calls prog 34 #[.map (some mo)] w fun e w'=>Fs kp Q w w' e:=by
 obtain⟨n3,n4,hN,hM,hf,i2⟩:=hL.map;have n5:=hM.size_le;obtain⟨W0,b0⟩:=aj (w.alloc (.cells #[.slice none 0 0,.slice none 0 0,.slice none 0 0] 68));have k0:K_ w W0:=by rw[b0];exact ag _ _
 have n6:Hid (aC W0 w.heap.size 68 3):=by rw[b0];exact aC.made w #[.slice none 0 0,.slice none 0 0,.slice none 0 0] 68
 have i3:=il (S:=fun _=>False) hM (But.aF k0) id;have i4:=Kz (callsIn_wide.1 (Tryz.zG (some mo) W0));have i5:=Kz (callsIn_wide.1 (Tryz.lL mo n3 n4 asIs W0 i3 (by unfold maxLen;omega) (by omega)));have⟨HM,e7,HL⟩:=dK hM i2 hL;clear hM i3 hf i2 hL n5;go_enter func34,ntmps34
 go_upto_region 1 with fail
 rw[<-b0];have p9:w.heap.size+1=W0.heap.size:=by rw[b0];simp
 clear b0;go_wp2_with fail
 refine i4.o.mono ?_;rintro e w1 ⟨rfl,i6⟩;rw[i6];clear i6 w1;go_wp2_with fail
 refine i5.o.mono ?_;rintro e w2 ⟨v,ss,rfl,hp,d0,n7,hb⟩;obtain⟨d,i7,i8,e8,e9⟩:=Ci HM.o hp;rw[<-i8,<-i7] at d0;have k2:K_ W0 w2:=K_.trans (ag _ _) hb;obtain⟨na,T,Y,i9⟩:=aX d0;subst Y;have j0:d.length<=60:=by
  refine JS (List.Nodup.length_le_of_subset ?_ (fun x hx=>m9 x ((e7.o x).1 ((e9 x).1 hx)))) n0;exact e8.imp fun {a b} n8=>dA n8
 have⟨f0,j1,j2,f1⟩:=lg i9 d0 k2 e8;have f2:Hid (∀s,s∈d↔kp s):=fun s=>(e9 s).trans (e7.o s)
 have K2:=k0.trans k2;clear hp d0 n7 hb i7 i8 e9 i9 e8 i4 i5 k2 k0 e7 HM;obtain⟨n,hn⟩:=aj d.length;rw[<-hn] at j0⊢;have b1:=Kz hn;clear hn;have n9:=run_make_row' (P:=prog) 66 52 _ _ underlying66 Tryz.GU rfl .i64 .i64 n (by omega) (by omega);go_upto_region 2 with fail
 refine sO (TabJ w2 na T n) ?_ ?_
 ·go_region
  ·refine⟨rfl,w2.heap.size+1+1,w2.heap.size,w2.heap.size+1, ?_,jE (bu w2 _ _ _).2.2.1 (bu w2 _ _ _).1 (bu w2 _ _ _).2.1 (by omega) (by omega) (by omega) (bu w2 _ _ _).2.2.2⟩;simp only[List.setIfInBounds_toArray,List.set_cons_zero,Lg]
  ·refine⟨rfl,w2.heap.size+1,w2.heap.size,w2.heap.size+1+1, ?_,jE (bu w2 _ _ _).2.1 (bu w2 _ _ _).1 (bu w2 _ _ _).2.2.1 (by omega) (by omega) (by omega) (bu w2 _ _ _).2.2.2⟩;simp only[List.setIfInBounds_toArray,List.set_cons_zero,Lg]
  ·refine⟨rfl,w2.heap.size+1+1,w2.heap.size+1,w2.heap.size, ?_,jE (bu w2 _ _ _).2.2.1 (bu w2 _ _ _).2.1 (bu w2 _ _ _).1 (by omega) (by omega) (by omega) (bu w2 _ _ _).2.2.2⟩;simp only[List.setIfInBounds_toArray,List.set_cons_zero,Lg]
  ·refine⟨rfl,w2.heap.size+1,w2.heap.size+1+1,w2.heap.size, ?_,jE (bu w2 _ _ _).2.1 (bu w2 _ _ _).2.2.1 (bu w2 _ _ _).1 (by omega) (by omega) (by omega) (bu w2 _ _ _).2.2.2⟩;simp only[List.setIfInBounds_toArray,List.set_cons_zero,Lg]
  ·refine⟨rfl,w2.heap.size,w2.heap.size+1,w2.heap.size+1+1, ?_,jE (bu w2 _ _ _).1 (bu w2 _ _ _).2.1 (bu w2 _ _ _).2.2.1 (by omega) (by omega) (by omega) (bu w2 _ _ _).2.2.2⟩;simp only[List.setIfInBounds_toArray,List.set_cons_zero,Lg]
  ·refine⟨rfl,w2.heap.size,w2.heap.size+1+1,w2.heap.size+1, ?_,jE (bu w2 _ _ _).1 (bu w2 _ _ _).2.2.1 (bu w2 _ _ _).2.1 (by omega) (by omega) (by omega) (bu w2 _ _ _).2.2.2⟩;simp only[List.setIfInBounds_toArray,List.set_cons_zero,Lg]
 rintro b u ⟨Z,f,l,rfl,j3,f3,f4,o0,o1,o2,O⟩;clear n9;simp only[List.setIfInBounds_toArray,List.set_cons_zero,Lg];have K3:=K2.trans O;have j4:w2.heap.size<=u.heap.size:=O.size;have q0:=Kz (f0.o.kept O);have d1:Hid (nD u u.heap.size n (fun c=>if c=true then f else l) (fun _ _=>.slice none 0 0) (fun _ _=>[])):=by
  refine⟨fun c=>?_,by simpa using o0,fun c p=>Ld _ _ _ _,fun c p c' p' _ x h=>(by cases h)⟩;cases c
  ·exact f4
  ·exact f3
 have j5:=Kz j3;have q1:=dC f3;have q2:=dC f4;have j6:Hid (fK (fun x y=>y∈Q x) d 0 [] 0 0 (fun _=>[]) (fun _=>[])):=fK.start _ _ _;have j7:=O;clear f3 f4 j3 O;go_wp2
 go_loopw [24] (fun x wr=>∃(k M:Nat) (g:Bool->Nat->LQ) (L:Bool->Nat->List Nat),k<=n/\x= .int .i64 (k:Int)/\M<=CE k/\Hid (nD wr u.heap.size n (fun c=>if c=true then f else l) g L)/\Hid (fK (fun x y=>y∈Q x) d k [] 0 M (L true) (L false))/\Hid (ObM wr Z na T n f l)/\K_ w2 wr/\u.heap.size<=wr.heap.size) (fun x _=>n-(intOf x).toNat)
 case atStart=>exact⟨0,0,_,_,JR _,rfl,JR _,d1,j6,j5,j7,JP _⟩
 case round=>
  clear d1 j6 j5 j7;obtain⟨k,M,g,L,hk,rfl,j8,D,U,R,E,a0⟩:=hrel;by_cases j9:k<n;rotate_left
  ·obtain rfl:=b1.o;have o3:k=d.length:=by omega
   subst o3;obtain⟨q3,q4,q5,o4⟩:=R.o;have b2:=n6.o.kept (j2.o.trans E);obtain⟨⟨_,x0⟩,g0⟩:=b2.row.at (i:=0) (by omega);obtain⟨⟨_,x1⟩,g1⟩:=b2.row.at (i:=1) (by omega);obtain⟨⟨_,x2⟩,g2⟩:=b2.row.at (i:=2) (by omega);have o5:=Kz b2;clear b2 o4;go_wp2_with fail
   have hR:=JU wr w.heap.size 0 [.slice na d.length T,.slice (some ⟨f,0,none⟩) d.length d.length,.slice (some ⟨l,0,none⟩) d.length d.length] (o5.o.row.there (o:=0) (m:=3) (JP _));have kf:But (fun b=>b=w.heap.size) wr (wr.setCells w.heap.size 0 [.slice na d.length T,.slice (some ⟨f,0,none⟩) d.length d.length,.slice (some ⟨l,0,none⟩) d.length d.length]):=But.set (S:=fun b=>b=w.heap.size) (But.set (S:=fun b=>b=w.heap.size) (But.set (S:=fun b=>b=w.heap.size) (But.aF (K_.refl wr)) (p:=⟨w.heap.size,0,none⟩) rfl _) (p:=⟨w.heap.size,1,none⟩) rfl _) (p:=⟨w.heap.size,2,none⟩) rfl _;have q6:=j2.o.size;refine X_ [.slice na d.length T,.slice (some ⟨f,0,none⟩) d.length d.length,.slice (some ⟨l,0,none⟩) d.length d.length] _ results34 rfl hR underlying68 rfl Tryz.E_ rfl ⟨na,T,d,f,l,M,L true,L false,rfl,f1.o,f2.o, ?_,U.o.whole,JS j8 (Dq j0),kf.kept (K2.trans E) (fun b e=>by rw[e];exact JP _)⟩;have o6:=kf.owns (ai j1.o E) (fun b e F=>by have:=(j1.o.lt b e).1;rw[KR] at this;omega);obtain⟨a9,c9,Y,a7⟩:=aX o6;simp only[KX,true_and] at Y;rw[<-Y.1] at a7;exact nD.read (D.o.but kf (fun c e=>by cases c <;> simp at e <;> omega) (fun c p b e F=>by have:=((D.o.own c p).lt b e).1;omega)) a7
  have b3:k<d.length:=by have:=b1.o;omega
  obtain⟨rb,ro,e1,o7,k1⟩:=(f0.o.kept E) k b3;subst e1;obtain⟨s,hs⟩:=aj (d.getD k ByteArray.empty);rw[<-hs] at k1;have f5:d[k]=s:=by rw[hs];simp[List.getD,b3]
  have k3:kp s:=(f2.o s).1 (by rw[<-f5];exact J_ b3);have k5:s.size<=maxLen:=by have:=n1 s k3;unfold maxLen;omega
  obtain⟨la,lc,k6,f6⟩:=HL.o.look (K2.trans E) k5;have k7:=Kz f5;have f7:=n2 s;obtain⟨d2,hQ⟩:=aj (Q s);rw[<-hQ] at k6 f6 f7;have⟨HQ,k8⟩:=aH hQ f6;have q7:(k:Int)<(n:Int):=by omega
  clear hs f5 k3 k5 hQ f6;go_wp2_with fail
  refine (uX wr la d2.length lc).mono ?_;rintro e w3 ⟨rfl,d3⟩;have O:K_ wr w3:=by rw[d3];exact ag _ _
  have b4:w3.cell? ⟨wr.heap.size,0,none⟩=some (.slice la d2.length lc):=by rw[d3];exact Xz wr #[.slice la d2.length lc] 26 0 _ rfl
  have k9:wr.heap.size<w3.heap.size:=by rw[d3];simp
  clear d3 k6 k1;go_wp2_with fail
  refine (uN w3 wr.heap.size la lc d2 (by omega) k9 b4 (k8.o.kept O)).mono ?_;rintro e w4 ⟨v4,C,rfl,f8,f9,k4⟩;obtain⟨o8,o9,rfl⟩:=ax f8;have q8:C.length<=1000000:=by rw[f9.1.length_eq];exact f7
  have⟨g3,V⟩:=aH f9 f8;have l0:=Kz (D.o.kept (O.trans k4));have l1:=Kz (R.o.kept (O.trans k4));have l2:=Kz (U.o.enter C);have K4:=E.trans (O.trans k4);have l3:u.heap.size<=w4.heap.size:=JS a0 (O.trans k4).size;have q9:w2.heap.size<=w3.heap.size:=(E.trans O).size;clear f8 f9 b4 k9 D R U O k4 E a0 k8 f7 o7;go_wp2
  go_loopw [35] (fun x wr=>∃(j M:Nat) (g:Bool->Nat->LQ) (L:Bool->Nat->List Nat),j<=C.length/\x= .int .i64 (j:Int)/\M<=CE k+j/\Hid (nD wr u.heap.size n (fun c=>if c=true then f else l) g L)/\Hid (fK (fun x y=>y∈Q x) d k C j M (L true) (L false))/\Hid (ObM wr Z (some ⟨rb,ro,none⟩) T n f l)/\Hid (wr.ownsRow w3.heap.size 9 1 (.slice o8 C.length o9) C.length (C.map Value.string))/\K_ w2 wr/\u.heap.size<=wr.heap.size) (fun x _=>C.length-(intOf x).toNat)
  case atStart=>exact⟨0,M,g,L,JR _,rfl,by omega,l0,l2,l1,V,K4,l3⟩
  case round=>
   clear l0 l2 l1 V K4 l3 j8;obtain⟨j,M,g,L,hj,rfl,r0,D,U,R,V,E,a0⟩:=hrel;by_cases d4:j<C.length;rotate_left
   ·have p0:C.length<=j:=by omega
    have g4:Hid (fK (fun x y=>y∈Q x) d (k+1) [] 0 M (L true) (L false)):=U.o.leave b3 p0 (fun y=>by rw[g3.o.1.mem_iff,HQ.o,k7.o]);go_wp2
    go_roundw
    case rel=>exact⟨k+1,M,g,L,by omega,by go_num,by rw[DL];omega,D,g4,R,E,a0⟩
    case measure=>simp[intOf];omega
   obtain⟨a9,c9,Y,a7⟩:=aX V.o;simp only[KX,true_and] at Y;rw[<-Y.1] at a7;obtain⟨qb,qo,e1,r1,g5⟩:=a7 j d4;subst e1;obtain⟨s',g6⟩:=aj (C.getD j ByteArray.empty);rw[<-g6] at g5;have l4:C[j]=s':=by rw[g6];simp[List.getD,d4]
   have l5:=Kz l4;have p1:Hid (Calls prog 71 #[.slice (some ⟨rb,ro,none⟩) n T,.string s'] wr fun e w'=>pW d s' e/\w'=wr):=by
    show Calls _ _ _ _ _;rw[b1.o];exact Aj wr _ T d s' (by have:=b1.o;omega) f1.o (f0.o.kept E)
   have r2:(j:Int)<(C.length:Int):=by omega
   clear Y a7 g6 l4;go_wp2_with fail
   refine p1.o.mono ?_;rintro e w5 ⟨⟨q,bq,rfl,g7,g8⟩,l6⟩;rw[l6];clear l6 w5;cases bq
   ·have p2:=Kz (g8 rfl);clear g7 g8 g5;have g4:Hid (fK (fun x y=>y∈Q x) d k C (j+1) M (L true) (L false)):=U.o.skip d4 (by rw[l5.o];exact p2.o);go_wp2
    go_roundw
    case rel=>exact⟨j+1,M,g,L,by omega,by go_num,by omega,D,g4,R,V,E,a0⟩
    case measure=>simp[intOf];omega
   obtain⟨l7,l8⟩:=g7 rfl;have l9:q<n:=by have:=b1.o;omega
   have p3:Hid (d[q]=s'):=by show d[q]=s';rw[<-l8];simp[List.getD,l7]
   have m0:Hid (fK (fun x y=>y∈Q x) d k C (j+1) (M+1) (fun p=>if p=k then L true k++ [q] else L true p) (fun p=>if p=q then L false q++ [k] else L false p)):=U.o.put ⟨f1.o,fun x y m1=>(f2.o x).2 (HL.o.sub x (fun e=>by rw[e] at m1;cases m1))⟩ d4 g3.o.2 l7 (by rw[p3.o,l5.o]) b3 (fun y hy=>by rw[g3.o.1.mem_iff,HQ.o] at hy;rw[k7.o];exact hy);have r3:=Dq (show k<=60 by omega);have r4:=(U.o.len k).1;have p4:=(U.o.len q).2;obtain⟨ic,m2,m3,m4,b4⟩:=info_parts Tryz.GI;clear g7 g8 l8 g5;obtain⟨d5,d6,g9⟩:=ax (D.o.own true k);have d7:=Kz g9;have rA:wr.cell? ⟨f,k,none⟩=some (.slice d5 (L true k).length d6):=by have h:=(D.o.row true).cell j9;rw[g9] at h;exact h
   have h0:Hid (∀w',K_ wr w'->w'.cell? ⟨Z,1,none⟩=some (.slice (some ⟨f,0,none⟩) n n)/\w'.cell? ⟨f,k,none⟩=some (.slice d5 (L true k).length d6)):=fun w' K=>⟨(K.cell R.o.lt).trans R.o.c1,(K.cell (dC (D.o.row true))).trans rA⟩
   clear g9 rA;go_upto_region 11 with fail
   refine bf 12 h0.o fun G KD H=>?_
   refine au 0 H ?_;refine au 4 H ?_;refine af 8 H ?_;refine ah 9 (fun K A=>?_);go_simp
   have K5:K_ G (G.alloc (.cells #[.int .i64 (q:Int)] 3)):=ag _ _;have W:(G.alloc (.cells #[.int .i64 (q:Int)] 3)).cell? ⟨G.heap.size,0,none⟩=some (.int .i64 (q:Int)):=Xz G #[.int .i64 (q:Int)] 3 0 _ rfl;have I:=KD.trans K5;refine A.out _ _ (fun _=>h0.o _ I) ?_;clear A K H;have r:=Kz (D.o.kept I);have B:=Kz (R.o.kept I);obtain⟨eb,b5⟩:=aj G.heap.size;rw[<-b5] at W⊢;generalize h1:G.alloc (.cells #[.int .i64 (q:Int)] 3)=w6 at W I r B⊢;clear h1 K5 b5 KD;have a2:=r.o.own true k;rw[d7.o] at a2;have b6:=Kz a2;have b7:u.heap.size<=w6.heap.size:=JS (a0) I.size;clear a2;try simp only[upP]
   refine ah 10 (fun K A=>?_);refine step_append_lies _ rfl (.tmp 53) (.tmp 55) 52 rfl u.heap.size 3 ic _ 1 8 underlying52 m2 m3 m4 b4 rfl (by decide) (.slice d5 (L true k).length d6) (L true k).length ((L true k).map ig) rfl b6.o ⟨eb,0,none⟩ 1 1 [.int .i64 (q:Int)] rfl rfl (fun j u t=>?_) (fun u t=>?_) (by decide) (by unfold maxLen;omega) (by omega) b7 w6.heap.size rfl ?_
   ·match j,t with
    | 0,t=>simp at t;subst t;rw[KZ];exact W
    | j+1,t=>simp at t
   ·simp at t;subst t;rfl
   intro gb gc J b8 X a3 h2;rw[<-d7.o] at X a3;obtain⟨b9,c0⟩:=r.o.put true k (x:=q) b8 X (fun y e=>by simp only[Value.ownBlock,KT] at e;subst e;rcases a3 with h | h;exact .inl h;exact .inr (Kv h.symm));have a4:But (fun b=>(g true k).ownBlock=some b) w6 J:=But.aI X (fun b e=>e);have a5:J.rowIs f 52 n (g true):=dm (r.o.row true) (a4.block _ (dC (r.o.row true)) (fun e=>bi (eX (r.o.row true)) (Yz (r.o.own true k) e) (by decide) rfl));have h3:=a5.frozen k;have c3:=a5.cell j9;have c4:J.cell? ⟨Z,1,none⟩=some (.slice (some ⟨f,0,none⟩) n n):=(a4.cell B.o.lt (fun e=>bi B.o.ty (Yz (r.o.own true k) e) (by decide) rfl)).trans B.o.c1;have a6:Hid (J.cell? ⟨Z,1,none⟩=some (.slice (some ⟨f,0,none⟩) n n)/\J.cell? ⟨f,k,none⟩=some (.slice d5 (L true k).length d6)):=⟨c4,by rw[c3,d7.o]⟩;have⟨h4,d8⟩:=aH b9 c0;refine A.out _ _ (fun _=>a6.o) ?_;clear A K b9 c0 b8 X a3 a4 a5 c4 h2 W;have H:=a6.o;try simp only[upP]
   refine af 11 H ?_;refine ah 12 (fun K A=>?_);go_simp
   refine ae A (fun h=>Lv rfl h) ?_;clear A K H;refine aB ?_;have m5:=Kz (But.aF (S:=fun y=>(g true k).ownBlock=some y\/y= (if true=true then f else l)) I);have c5:=Kz (m5.out.trans d8.o);have d9:=Kz (B.o.but d8.o (fun e=>by
    rcases e with e|e
    ·exact bi B.o.ty (Yz (r.o.own true k) e) (by decide) rfl
    ·exact bi B.o.ty (eX (r.o.row true)) (by decide) e))
   generalize c6:J.setCell ⟨(if true=true then f else l),k,none⟩ (.slice (some ⟨gb,0,none⟩) ((L true k).length+1) gc)=a8 at h4 d8 d9 c5;have c7:J.setCell ⟨f,k,none⟩ (.slice (some ⟨gb,0,none⟩) ((L true k).length+1) gc)=a8:=c6;rw[c7];clear c6 c7 c3 h3 a6 b6 b7 d7 h0 m5 d8 r B I;have h5:∃(g2:Bool->Nat->LQ) (N:Bool->Nat->List Nat),Hid (nD a8 u.heap.size n (fun c=>if c=true then f else l) g2 N)/\Hid (N=fun c p=>if c=true/\p=k then L true k++ [q] else L c p):=⟨_,_,h4,Kz rfl⟩;obtain⟨g2,N,a1,h6⟩:=h5;have r5:(N false q).length<=M:=by rw[h6.o];simpa using p4
   have e0:=Kz (c5.o.owns V.o (fun b e F=>by
    rcases F with F|F
    ·exact bi (Yz V.o e) (Yz (D.o.own true k) F) (by decide) rfl
    ·exact bi (Yz V.o e) (eX (D.o.row true)) (by decide) F))
   have KA:K_ w2 a8:=c5.o.kept E (fun b e=>by
    rcases e with e|e
    ·exact JS j4 ((D.o.own true k).lt b e).1
    ·rw[e];exact o1)
   have h7:u.heap.size<=a8.heap.size:=JS a0 c5.o.size;have p5:=E;clear h4 c5 D R V E a0 p5;obtain⟨e2,e3,h8⟩:=ax (a1.o.own false q);have e4:=Kz h8;have rB:a8.cell? ⟨l,q,none⟩=some (.slice e2 (N false q).length e3):=by have h:=(a1.o.row false).cell l9;rw[h8] at h;exact h
   have h9:Hid (∀w',K_ a8 w'->w'.cell? ⟨Z,2,none⟩=some (.slice (some ⟨l,0,none⟩) n n)/\w'.cell? ⟨l,q,none⟩=some (.slice e2 (N false q).length e3)):=fun w' K=>⟨(K.cell d9.o.lt).trans d9.o.c2,(K.cell (dC (a1.o.row false))).trans rB⟩
   clear h8 rB;go_upto_region 12 with fail
   refine bf 12 h9.o fun G KD H=>?_
   refine au 0 H ?_;refine au 4 H ?_;refine af 8 H ?_;refine ah 9 (fun K A=>?_);go_simp
   have K5:K_ G (G.alloc (.cells #[.int .i64 (k:Int)] 3)):=ag _ _;have W:(G.alloc (.cells #[.int .i64 (k:Int)] 3)).cell? ⟨G.heap.size,0,none⟩=some (.int .i64 (k:Int)):=Xz G #[.int .i64 (k:Int)] 3 0 _ rfl;have I:=KD.trans K5;refine A.out _ _ (fun _=>h9.o _ I) ?_;clear A K H;have r:=Kz (a1.o.kept I);have B:=Kz (d9.o.kept I);obtain⟨eb,b5⟩:=aj G.heap.size;rw[<-b5] at W⊢;generalize h1:G.alloc (.cells #[.int .i64 (k:Int)] 3)=w6 at W I r B⊢;clear h1 K5 b5 KD;have a2:=r.o.own false q;rw[e4.o] at a2;have b6:=Kz a2;have b7:u.heap.size<=w6.heap.size:=JS (h7) I.size;clear a2;try simp only[upP]
   refine ah 10 (fun K A=>?_);refine step_append_lies _ rfl (.tmp 65) (.tmp 67) 52 rfl u.heap.size 3 ic _ 1 8 underlying52 m2 m3 m4 b4 rfl (by decide) (.slice e2 (N false q).length e3) (N false q).length ((N false q).map ig) rfl b6.o ⟨eb,0,none⟩ 1 1 [.int .i64 (k:Int)] rfl rfl (fun j u t=>?_) (fun u t=>?_) (by decide) (by unfold maxLen;omega) (by omega) b7 w6.heap.size rfl ?_
   ·match j,t with
    | 0,t=>simp at t;subst t;rw[KZ];exact W
    | j+1,t=>simp at t
   ·simp at t;subst t;rfl
   intro gb gc J b8 X a3 h2;rw[<-e4.o] at X a3;obtain⟨b9,c0⟩:=r.o.put false q (x:=k) b8 X (fun y e=>by simp only[Value.ownBlock,KT] at e;subst e;rcases a3 with h | h;exact .inl h;exact .inr (Kv h.symm));have a4:But (fun b=>(g2 false q).ownBlock=some b) w6 J:=But.aI X (fun b e=>e);have a5:J.rowIs l 52 n (g2 false):=dm (r.o.row false) (a4.block _ (dC (r.o.row false)) (fun e=>bi (eX (r.o.row false)) (Yz (r.o.own false q) e) (by decide) rfl));have h3:=a5.frozen q;have c3:=a5.cell l9;have c4:J.cell? ⟨Z,2,none⟩=some (.slice (some ⟨l,0,none⟩) n n):=(a4.cell B.o.lt (fun e=>bi B.o.ty (Yz (r.o.own false q) e) (by decide) rfl)).trans B.o.c2;have a6:Hid (J.cell? ⟨Z,2,none⟩=some (.slice (some ⟨l,0,none⟩) n n)/\J.cell? ⟨l,q,none⟩=some (.slice e2 (N false q).length e3)):=⟨c4,by rw[c3,e4.o]⟩;have⟨i0,e5⟩:=aH b9 c0;refine A.out _ _ (fun _=>a6.o) ?_;clear A K b9 c0 b8 X a3 a4 a5 c4 h2 W;have H:=a6.o;try simp only[upP]
   refine af 11 H ?_;refine ah 12 (fun K A=>?_);go_simp
   refine ae A (fun h=>Lv rfl h) ?_;clear A K H;refine aB ?_;have m6:=Kz (But.aF (S:=fun y=>(g2 false q).ownBlock=some y\/y= (if false=true then f else l)) I);have c8:=Kz (m6.out.trans e5.o);have m7:=Kz (B.o.but e5.o (fun e=>by
    rcases e with e|e
    ·exact bi B.o.ty (Yz (r.o.own false q) e) (by decide) rfl
    ·exact bi B.o.ty (eX (r.o.row false)) (by decide) e))
   generalize c6:J.setCell ⟨(if false=true then f else l),q,none⟩ (.slice (some ⟨gb,0,none⟩) ((N false q).length+1) gc)=e6 at i0 e5 m7 c8;have c7:J.setCell ⟨l,q,none⟩ (.slice (some ⟨gb,0,none⟩) ((N false q).length+1) gc)=e6:=c6;rw[c7];clear c6 c7 c3 h3 a6 b6 b7 e4 h9 m6 e5 r B I;have p6:=Kz (c8.o.owns e0.o (fun b e F=>by
    rcases F with F|F
    ·exact bi (Yz e0.o e) (Yz (a1.o.own false q) F) (by decide) rfl
    ·exact bi (Yz e0.o e) (eX (a1.o.row false)) (by decide) F))
   have KB:K_ w2 e6:=c8.o.kept KA (fun b e=>by
    rcases e with e|e
    ·exact JS j4 ((a1.o.own false q).lt b e).1
    ·rw[e];exact o2)
   have p7:u.heap.size<=e6.heap.size:=JS h7 c8.o.size;have h5:∃(i1:Bool->Nat->LQ) (L3:Bool->Nat->List Nat),Hid (nD e6 u.heap.size n (fun c=>if c=true then f else l) i1 L3)/\Hid (L3=fun c p=>if c=false/\p=q then N false q++ [k] else N c p):=⟨_,_,i0,Kz rfl⟩;obtain⟨i1,L3,d1,m8⟩:=h5;have p8:Hid (fK (fun x y=>y∈Q x) d k C (j+1) (M+1) (L3 true) (L3 false)):=by
    have e1:L3 true=fun p=>if p=k then L true k++ [q] else L true p:=by funext p;rw[m8.o,h6.o];simp
    have F:L3 false=fun p=>if p=q then L false q++ [k] else L false p:=by funext p;rw[m8.o,h6.o];simp
    show fK _ _ _ _ _ _ _ _;rw[e1,F];exact m0.o
   clear i0 c8 a1 e0 KA h7 m0;go_wp2
   go_roundw
   case rel=>exact⟨j+1,M+1,i1,L3,by omega,by go_num,by omega,d1,p8,m7,p6,KB,p7⟩
   case measure=>simp[intOf];omega
