import Derived.Deep.RegionWith
import Derived.Test.YtgnkgfjmbmcfcaaGreatDoorKWGo4
set_option maxRecDepth 100000
set_option maxHeartbeats 25600000
namespace Go.Proofs.YtgnkgfjmbmcfcaaGreatDoor
open Go.RowKit Go.Proofs.Tryz
theorem Gy(w:Qy)(c:aT)(left:Int)(a:c.text.size<=maxLen)(b:0<=left)(d:left<=1048576):
  Calls prog 209 #[.agg #[.string c.text,.int .i64 c.goto],.int .i64 left] w fun e w'=>e= .returned (.int .i64 (szL c.text.size left))/\K_ w w':=by
 unfold maxLen at a;go_enter func209,ntmps209
 go_wp2
 ·go_ret
  exact⟨aU (cB (by omega)).symm,ak _ _⟩
 ·go_ret
  exact⟨aU (dZ (by omega)).symm,ak _ _⟩
theorem yu(w:Qy)(c:aT):
  Calls prog 210 #[.agg #[.string c.text,.int .i64 c.goto]] w fun e w'=>e= .returned (.agg #[.string c.text,.int .i64 c.goto])/\K_ w w':=by
 go_enter func210,ntmps210
 go_wp2
 exact bodyPost_ret (v:= .agg #[.string c.text,.int .i64 c.goto]) (by simp[results,results210,go_sem]) rfl ⟨rfl,by
  repeat (first | apply K_.alloc | (refine K_.setCell ?_ (by simp) _) | exact K_.refl _)⟩
theorem Fe(w:Qy)(c:aT):
  Calls prog 228 #[.agg #[.string c.text,.int .i64 c.goto],.agg #[.string c.text,.int .i64 c.goto]] w fun e w'=>e= .returned (.bool true)/\K_ w w':=by
 go_enter func228,ntmps228
 go_wp2
 go_ret
 exact⟨rfl,by repeat (first | apply K_.alloc | apply K_.drew | exact K_.refl _)⟩
def nV(l:List aT):Nat:=l.length+ (l.map (·.text.size)).sum
theorem DZ(w:Qy)(a:Qx)(cap:Nat)(l:List aT)(left:Int)(q:l.length<=maxLen)(r:∀c∈l,c.text.size<=maxLen)
  (s:dw w a l) (z:0<=left) (A:left<=1048576):
  Calls prog 192 #[.slice a l.length cap,.int .i64 left] w fun e w'=>e= .returned (.int .i64 (szL (nV l) left))/\K_ w w':=by
 unfold maxLen at q;go_enter func192,ntmps192
 go_wp2
 ·go_ret
  exact⟨aU (cB (by unfold nV;omega)).symm,K_.refl _⟩
 ·go_loopw [1,5] (fun x i wr=>∃k:Nat,k<=l.length/\i= .int .i64 k/\x= .int .i64 (left-l.length-sumTo (·.text.size) l k)/\0<=left-l.length-sumTo (·.text.size) l k/\K_ w wr) (fun _ i _=>l.length-(intOf i).toNat)
  case atStart=>exact⟨0,OW _,rfl,by simp[eD],by simp[eD];omega,K_.refl _⟩
  case round=>
   obtain⟨k,B,rfl,rfl,t,d⟩:=hrel;by_cases g:k<l.length
   ·obtain⟨b,o,rfl,C,f⟩:=s.kept d k g;have v:(l.getD k aT.zero).text.size<=maxLen:=r _ (by simp[List.getD,g]);have h:Hid (sumTo (·.text.size) l (k+1)=sumTo (·.text.size) l k+ (l.getD k aT.zero).text.size):=iK _ l _ k g;have D:=sumTo_le (·.text.size) l (k+1);generalize l.getD k aT.zero=c at *;have j:=f 0 _ rfl;have n:=f 1 _ rfl;simp only[PR] at j;go_wp2_with fail
    refine (Gy _ c _ v (by omega) (by omega)).mono ?_;rintro e E ⟨rfl,m⟩;have p:=d.trans m;by_cases y:(c.text.size:Int)<=left-l.length-sumTo (·.text.size) l k
    ·rw[dZ y];clear j n f d m;go_wp2
     go_roundw
     case rel=>exact⟨k+1,by omega,by go_num,by rw[h.o];go_num,by rw[h.o];omega,p⟩
     case measure=>simp[intOf];omega
    ·rw[cB (by omega)];clear j n f d m;go_wp2
     go_ret
     exact⟨aU (cB (by unfold nV;have:=h.o;omega)).symm,p⟩
   ·go_wp2
    go_ret
    have:k=l.length:=by omega
    subst this;rw[jD] at t⊢;exact⟨aU (by rw[dZ (by unfold nV;omega)];unfold nV;omega),d⟩
theorem DU(w:Qy)(a h:Qx)(cap m:Nat)(l:List aT)(n:l.length<=maxLen)
  (p:dw w a l) (q:dw w h l):
  Calls prog 208 #[.slice a l.length cap,.slice h l.length m] w fun e w'=>e= .returned (.bool true)/\K_ w w':=by
 unfold maxLen at n;go_enter func208,ntmps208
 go_wp2
 go_loopw [5] (fun i wr=>∃k:Nat,k<=l.length/\i= .int .i64 k/\K_ w wr) (fun i _=>l.length-(intOf i).toNat)
 case atStart=>exact⟨0,OW _,rfl,K_.refl _⟩
 case round=>
  obtain⟨k,t,rfl,d⟩:=hrel;by_cases j:k<l.length
  ·obtain⟨b,o,rfl,v,f⟩:=p.kept d k j;obtain⟨x,y,rfl,z,g⟩:=q.kept d k j;generalize l.getD k aT.zero=c at *;have r:=f 0 _ rfl;have A:=f 1 _ rfl;have s:=g 0 _ rfl;have B:=g 1 _ rfl;simp only[PR] at r s;clear f g;go_wp2
   go_region_with (go_at_call 228;refine (Fe _ c).mono ?_;rintro e C ⟨rfl,D⟩)
   all_goals
    go_wp2
    go_roundw
    case rel=>exact⟨k+1,by omega,by go_num,by repeat (first | assumption | apply K_.drew | refine K_.trans ?_ (by assumption))⟩
    case measure=>simp[intOf];omega
  ·go_wp2
   go_ret
   exact⟨rfl,d⟩
theorem Tryz.EI :(prog.info? 212).map (·.size)=some 2:=by kernel_rfl
theorem Tryz.ED :(prog.info? 212).map (fun i=>(i.zero,i.size,i.bytes))=some (some (.agg #[.string ByteArray.empty,.int .i64 0]),2,24):=by kernel_rfl
theorem DL(w:Qy)(a:Qx)(cap:Nat)(l:List aT)(I:l.length<=1048576)
  (A:dw w a l):
  Calls prog 193 #[.slice a l.length cap] w fun e w'=>∃b,e= .returned (.slice (some ⟨b,0,none⟩) l.length l.length)/\dw w' (some ⟨b,0,none⟩) l/\K_ w w'/\w.heap.size<=b:=by
 have B:=dJ (P:=prog) 170 212 _ _ _ underlying170 Tryz.ED .i64 .i64 l.length (by omega) (by omega);go_enter func193,ntmps193
 go_wp2
 clear B;have n:=Row.made w (madeCells #[.string ByteArray.empty,.int .i64 0] (l.length*2)) 212;rw[size_madeCells] at n;have s:K_ w (w.alloc (.cells (madeCells #[.string ByteArray.empty,.int .i64 0] (l.length*2)) 212)):=ak _ _;go_loopw [4] (fun i wr=>∃k:Nat,k<=l.length/\i= .int .i64 k/\K_ w wr/\Row wr w.heap.size (l.length*2)/\∀j,j<k->wr.rangeAt w.heap.size (j*2) (l.getD j aT.zero).cells) (fun i _=>l.length-(intOf i).toNat)
 case atStart=>exact⟨0,OW _,rfl,s,n,fun j d=>aB d⟩
 case round=>
  obtain⟨k,J,rfl,f,g,p⟩:=hrel;clear n s;by_cases C:k<l.length
  ·obtain⟨b,o,rfl,K,q⟩:=A.kept f k C;have t:=Kz p;clear p;generalize v:l.getD k aT.zero=c at *;have D:=Kz v;clear v;have x:=q 0 _ rfl;have E:=q 1 _ rfl;simp only[PR] at x;clear q;go_wp2_with fail
   refine (yu _ c).mono ?_;rintro e y ⟨rfl,h⟩;have F:=f.trans h;have r:=g.kept h;have z:=r.there (o:=k*2) (m:=2) (by omega);have G:Hid (Row y w.heap.size (l.length*2)):=r;have H:Hid (∀j,j<k->y.rangeAt w.heap.size (j*2) (l.getD j aT.zero).cells):=fun j d=>h.range g.lt (t.o j d)
   clear t x E f h g r;go_wp2_with (refine wpList_store_mid rfl 212 _ _ rfl w.heap.size (k*2) #[.string c.text,.int .i64 c.goto] rfl rfl z Tryz.EI (aT.one c) ?_)
   go_roundw
   case rel=>
    refine⟨k+1,by omega,by go_num,K_.setCells (OU _) _ _ F,Row.setCells _ _ G.o,fun j d=>?_⟩;by_cases e:j=k
    ·subst e;rw[aP D];exact OY _ _ _ _ z
    ·exact Pm (H.o j (by omega)) _ _ _ (by simp[aT.cells];omega)
   case measure=>simp[intOf];omega
  ·go_wp2
   go_ret
   have:k=l.length:=by omega
   subst this;exact⟨w.heap.size,rfl,fun j d=>⟨w.heap.size,0,rfl,g.lt,by rw[PD];exact p j d⟩,f,OU _⟩
def d_(s:Xq):Nat:=kZ s.asks+nV s.cases+s.give.size
theorem FX(w:Qy)(s:Xq)(b c:Qx)(ca cc:Nat)(left:Int)(a:s.Fits)(j:Strs w b s.asks)(k:dw w c s.cases)(l:0<=left)(m:left<=1048576):
  Calls prog 168 #[.agg #[.slice b s.asks.length ca,.int .i64 s.on,.slice c s.cases.length cc,.int .i64 s.els,.int .i64 s.fall,.bool s.fin,.bool s.bad,.string s.give],.int .i64 left] w fun e w'=>e= .returned (.int .i64 (szL (d_ s) left))/\K_ w w':=by
 have n:=a.give;unfold maxLen at n;have d:K_ w (w.alloc (.cells #[.slice b s.asks.length ca,.int .i64 s.on,.slice c s.cases.length cc,.int .i64 s.els,.int .i64 s.fall,.bool s.fin,.bool s.bad,.string s.give] 242)):=ak _ _;go_enter func168,ntmps168
 go_wp2_with fail
 refine (qP _ _ _ _ _ a.asks a.wV (j.kept d) l m).mono ?_;rintro e g ⟨rfl,rfl⟩;by_cases p:(kZ s.asks:Int)<=left
 ·rw[dZ p];go_wp2_with fail
  refine (DZ _ _ _ _ _ a.cases (fun q h=>(a.tN q h).1) (k.kept d) (by omega) (by omega)).mono ?_;rintro e g ⟨rfl,i⟩;have f:=d.trans i;by_cases r:(nV s.cases:Int)<=left-kZ s.asks
  ·rw[dZ r];have h:∀o,g.cell? ⟨w.heap.size,o,none⟩= (w.alloc (.cells #[.slice b s.asks.length ca,.int .i64 s.on,.slice c s.cases.length cc,.int .i64 s.els,.int .i64 s.fall,.bool s.fin,.bool s.bad,.string s.give] 242)).cell? ⟨w.heap.size,o,none⟩:=fun o=>i.cell (by simp)
   go_wp2
   ·go_ret
    exact⟨aU (cB (by unfold d_;omega)).symm,f⟩
   ·go_ret
    exact⟨aU (by rw[dZ (by unfold d_;omega)];unfold d_;omega),f⟩
  ·rw[cB (by omega)];go_wp2
   go_ret
   exact⟨aU (cB (by unfold d_;omega)).symm,f⟩
 ·rw[cB (by omega)];go_wp2
  go_ret
  exact⟨aU (cB (by unfold d_;omega)).symm,d⟩
theorem Tryz.tF :(prog.info? 172).map (·.size)=some 8:=by kernel_rfl
theorem EO(w:Qy)(s:Xq)(g h:Qx)(ca cc:Nat)(n:s.asks.length<=1048576)(h2:s.cases.length<=1048576)(q:Strs w g s.asks)(r:dw w h s.cases):
  Calls prog 172 #[.agg #[.slice g s.asks.length ca,.int .i64 s.on,.slice h s.cases.length cc,.int .i64 s.els,.int .i64 s.fall,.bool s.fin,.bool s.bad,.string s.give]] w fun e w'=>∃a b,e= .returned (.agg (s.cells (some ⟨a,0,none⟩) s.asks.length (some ⟨b,0,none⟩) s.cases.length).toArray)/\(Strs w' (some ⟨a,0,none⟩) s.asks/\dw w' (some ⟨b,0,none⟩) s.cases/\w.heap.size<=a/\w.heap.size<=b)/\K_ w w':=by
 go_enter func172,ntmps172
 go_wp2_with fail
 refine (jN _ _ _ _ n (q.kept (by repeat (first | apply K_.alloc | exact K_.refl _)))).mono ?_;rintro e d ⟨a,rfl,k,f,t⟩;obtain⟨H,I⟩:=f.rules;have v:=f.size;simp only[PL] at t v;have l:Row d (w.heap.size+1) 8:=Row.kept (Row.alloc (by have:=Row.made (w.alloc (.cells #[.slice g s.asks.length ca,.int .i64 s.on,.slice h s.cases.length cc,.int .i64 s.els,.int .i64 s.fall,.bool s.fin,.bool s.bad,.string s.give] 242)) #[.slice none 0 0,.int .i64 0,.slice none 0 0,.int .i64 0,.int .i64 0,.bool false,.bool false,.string ⟨#[]⟩] 172;simpa using this) _) f;have i:K_ w d:=K_.trans (by repeat (first | apply K_.alloc | exact K_.refl _)) f;clear f;go_wp2_with fail
 refine (DL _ _ _ _ h2 (r.kept (by repeat (first | (refine K_.setCell ?_ (by simp <;> omega) _) | exact i)))).mono ?_;rintro e j ⟨b,rfl,x,c,y⟩;obtain⟨z,A⟩:=c.rules;have B:=c.size;simp only[size_setCell] at y B z A;have C:K_ w j:=K_.trans (by repeat (first | (refine K_.setCell ?_ (by simp <;> omega) _) | exact i)) c;have D:=Strs.kept (Strs.setCell (Strs.setCell k (p:=⟨w.heap.size+1+1,0,none⟩) (by simp <;> omega) (.slice (some ⟨a,0,none⟩) s.asks.length s.asks.length)) (p:=⟨w.heap.size+1+1,1,none⟩) (by simp <;> omega) (.int .i64 s.on)) c;have E:Hid (Row j (w.heap.size+1) 8):=Row.kept (by repeat (first | refine Row.set ?_ _ rfl _ | exact l)) c;clear c i k l;have J:w.heap.size<d.heap.size:=by omega
 have K:w.heap.size+1<d.heap.size:=by omega
 have L:w.heap.size+1+1<d.heap.size:=by omega
 go_wp2
 have F:Row ((((((j.setCell ⟨w.heap.size+1+1,2,none⟩ (.slice (some ⟨b,0,none⟩) s.cases.length s.cases.length)).setCell ⟨w.heap.size+1+1,3,none⟩ (.int .i64 s.els)).setCell ⟨w.heap.size+1+1,4,none⟩ (.int .i64 s.fall)).setCell ⟨w.heap.size+1+1,5,none⟩ (.bool s.fin)).setCell ⟨w.heap.size+1+1,6,none⟩ (.bool s.bad)).setCell ⟨w.heap.size+1+1,7,none⟩ (.string s.give)) (w.heap.size+1) 8:=by
  repeat (first | refine Row.set ?_ _ rfl _ | exact E.o)
 have G:=OY _ (w.heap.size+1) 0 (s.cells (some ⟨a,0,none⟩) s.asks.length (some ⟨b,0,none⟩) s.cases.length) (F.there (o:=0) (m:=8) (OU _));refine Zx (s.cells (some ⟨a,0,none⟩) s.asks.length (some ⟨b,0,none⟩) s.cases.length) _ results172 rfl G underlying172 rfl Tryz.tF rfl ⟨a,b,rfl,⟨?_, ?_,by omega,by omega⟩, ?_⟩
 ·repeat (first | (refine Strs.setCell ?_ (by simp <;> omega) _) | exact D)
 ·repeat (first | (refine dw.setCell ?_ (by simp <;> omega) _) | exact x)
 ·repeat (first | (refine K_.setCell ?_ (by simp <;> omega) _) | exact C)
theorem EM(w:Qy)(s:Xq)(f g h i:Qx)(ca cc k dc:Nat)(m:s.asks.length<=maxLen)(h2:s.cases.length<=maxLen)(n:Strs w f s.asks)(p:dw w g s.cases)(q:Strs w h s.asks)(r:dw w i s.cases):
  Calls prog 191 #[.agg #[.slice f s.asks.length ca,.int .i64 s.on,.slice g s.cases.length cc,.int .i64 s.els,.int .i64 s.fall,.bool s.fin,.bool s.bad,.string s.give],.agg #[.slice h s.asks.length k,.int .i64 s.on,.slice i s.cases.length dc,.int .i64 s.els,.int .i64 s.fall,.bool s.fin,.bool s.bad,.string s.give]] w fun e w'=>e= .returned (.bool true)/\K_ w w':=by
 go_enter func191,ntmps191
 go_wp2_with fail
 have a:K_ w ((w.alloc (.cells #[.slice f s.asks.length ca,.int .i64 s.on,.slice g s.cases.length cc,.int .i64 s.els,.int .i64 s.fall,.bool s.fin,.bool s.bad,.string s.give] 172)).alloc (.cells #[.slice h s.asks.length k,.int .i64 s.on,.slice i s.cases.length dc,.int .i64 s.els,.int .i64 s.fall,.bool s.fin,.bool s.bad,.string s.give] 172)):=by repeat (first | apply K_.alloc | exact K_.refl _)
 refine (mJ _ _ _ _ _ _ m (n.kept a) (q.kept a)).mono ?_;rintro e l ⟨rfl,b⟩;obtain⟨x,y⟩:=b.rules;have c:=a.trans b;have t:=b.size;simp only[PL] at t;clear a b;have z:w.heap.size<l.heap.size:=by omega
 have A:w.heap.size+1<l.heap.size:=by omega
 go_wp2_with fail
 refine (DU _ _ _ _ _ _ h2 (p.kept (by repeat (first | apply K_.drew | exact c))) (r.kept (by repeat (first | apply K_.drew | exact c)))).mono ?_;rintro e j ⟨rfl,d⟩;obtain⟨B,C⟩:=d.rules;have v:K_ w j:=K_.trans (by repeat (first | apply K_.drew | exact c)) d;have D:=d.size;clear d c;have E:w.heap.size<j.heap.size:=by omega
 have F:w.heap.size+1<j.heap.size:=by omega
 go_wp2
 go_ret
 exact⟨rfl,by repeat (first | apply K_.drew | exact v)⟩
def fU(l:List Xq):Nat:=l.length+ (l.map d_).sum
theorem DV(w:Qy)(a:Qx)(cap:Nat)(l:List Xq)(left:Int)(A:l.length<=maxLen)(B:∀s∈l,s.Fits)
  (C:Steps w a l) (L:0<=left) (M:left<=1048576):
  Calls prog 138 #[.slice a l.length cap,.int .i64 left] w fun e w'=>e= .returned (.int .i64 (szL (fU l) left))/\K_ w w':=by
 unfold maxLen at A;go_enter func138,ntmps138
 go_wp2
 ·go_ret
  exact⟨aU (cB (by unfold fU;omega)).symm,K_.refl _⟩
 ·go_loopw [1,5] (fun D i wr=>∃k:Nat,k<=l.length/\i= .int .i64 k/\D= .int .i64 (left-l.length-sumTo d_ l k)/\0<=left-l.length-sumTo d_ l k/\K_ w wr) (fun _ i _=>l.length-(intOf i).toNat)
  case atStart=>exact⟨0,OW _,rfl,by simp[eD],by simp[eD];omega,K_.refl _⟩
  case round=>
   obtain⟨k,N,rfl,rfl,E,d⟩:=hrel;by_cases f:k<l.length
   ·obtain⟨b,o,O,rfl,P,c,F,G,H,I,rfl,g,h,Q⟩:=C.kept d k f;have J:(l.getD k Xq.zero).Fits:=B _ (by simp[List.getD,f]);have j:Hid (sumTo d_ l (k+1)=sumTo d_ l k+d_ (l.getD k Xq.zero)):=iK _ l _ k f;have R:=sumTo_le d_ l (k+1);generalize l.getD k Xq.zero=s at *;have m:=c 0 _ rfl;have p:=c 1 _ rfl;have q:=c 2 _ rfl;have r:=c 3 _ rfl;have t:=c 4 _ rfl;have v:=c 5 _ rfl;have x:=c 6 _ rfl;have y:=c 7 _ rfl;simp only[PR] at m;clear c;go_wp2_with fail
    refine (FX _ s F H G I _ J g h (by omega) (by omega)).mono ?_;rintro e S ⟨rfl,n⟩;have z:=d.trans n;by_cases K:(d_ s:Int)<=left-l.length-sumTo d_ l k
    ·rw[dZ K];clear m p q r t v x y g h d n;go_wp2
     go_roundw
     case rel=>exact⟨k+1,by omega,by go_num,by rw[j.o];go_num,by rw[j.o];omega,z⟩
     case measure=>simp[intOf];omega
    ·rw[cB (by omega)];clear m p q r t v x y g h d n;go_wp2
     go_ret
     exact⟨aU (cB (by unfold fU;have:=j.o;omega)).symm,z⟩
   ·go_wp2
    go_ret
    have:k=l.length:=by omega
    subst this;rw[jD] at E⊢;exact⟨aU (by rw[dZ (by unfold fU;omega)];unfold fU;omega),d⟩
theorem Tryz.EG :(prog.info? 172).map (fun i=>(i.zero,i.size,i.bytes))=some (some (.agg #[.slice none 0 0,.int .i64 0,.slice none 0 0,.int .i64 0,.int .i64 0,.bool false,.bool false,.string ⟨#[]⟩]),8,96):=by kernel_rfl
def fV(w:Qy)(B j:Nat)(s:Xq):Prop:=
 ∃b1 b2,B<b1/\B<b2/\w.rangeAt B (j*8) (s.cells (some ⟨b1,0,none⟩) s.asks.length (some ⟨b2,0,none⟩) s.cases.length)/\Strs w (some ⟨b1,0,none⟩) s.asks/\dw w (some ⟨b2,0,none⟩) s.cases
variable {B j : Nat} {w w' : Qy}
theorem fV.kept{s:Xq}(h:fV w B j s)(k:K_ w w')(a:B<w.heap.size):fV w' B j s:=by
 obtain⟨b,c,d,e,f,g,i⟩:=h;exact⟨b,c,d,e,k.range a f,g.kept k,i.kept k⟩
variable {vs : List QA}
theorem fV.setCells{o:Nat}{s:Xq}(h:fV w B j s)(a:j*8+8<=o\/o+vs.length<=j*8):fV (w.setCells B o vs) B j s:=by
 obtain⟨b,c,d,e,f,g,i⟩:=h;exact⟨b,c,d,e,Pm f _ _ _ (by right;simpa[Xq.cells] using a),Strs.setCells (by omega) _ _ g,dw.setCells (by omega) _ _ i⟩
theorem fV.setCell{s:Xq}(h:fV w B j s){p:Addr}(a:p.block<B)(v:QA):fV (w.setCell p v) B j s:=by
 obtain⟨b,c,d,e,f,g,i⟩:=h;exact⟨b,c,d,e,fun k u l=>by rw[Pq _ _ _ _ (fun m=>by rw[m] at a;simp at a)];exact f k u l,Strs.setCell g (by omega) v,dw.setCell i (by omega) v⟩
def dF(w:Qy)(B:Nat)(l:List Xq):Prop:=B<w.heap.size/\∀j,j<l.length->fV w B j (l.getD j Xq.zero)
theorem dF.setCell{l:List Xq}(h:dF w B l){p:Addr}(b:p.block<B)(v:QA):dF (w.setCell p v) B l:=
 ⟨by rw[size_setCell];exact h.1,fun j d=>(h.2 j d).setCell b v⟩
theorem dF.kept{l:List Xq}(h:dF w B l)(k:K_ w w'):dF w' B l:=
 ⟨OV h.1 k.size,fun j c=>(h.2 j c).kept k h.1⟩
theorem dF.steps{l:List Xq}(h:dF w B l):Steps w (some ⟨B,0,none⟩) l:=by
 intro j a;obtain⟨e,f,_,_,b,c,d⟩:=h.2 j a;exact⟨B,0,_,rfl,h.1,by rw[PD];exact b,_,_,_,_,rfl,c,d,OU _⟩
theorem Db(w:Qy)(a:Qx)(cap:Nat)(l:List Xq)(hl:l.length<=1048576)(g:∀s∈l,s.asks.length<=1048576/\s.cases.length<=1048576)
  (K:Steps w a l):
  Calls prog 142 #[.slice a l.length cap] w fun e w'=>∃b,e= .returned (.slice (some ⟨b,0,none⟩) l.length l.length)/\dF w' b l/\K_ w w'/\w.heap.size<=b:=by
 have L:=dJ (P:=prog) 86 172 _ _ _ underlying86 Tryz.EG .i64 .i64 l.length (by omega) (by omega);go_enter func142,ntmps142
 go_wp2
 clear L;have r:=Row.made w (madeCells #[.slice none 0 0,.int .i64 0,.slice none 0 0,.int .i64 0,.int .i64 0,.bool false,.bool false,.string ⟨#[]⟩] (l.length*8)) 172;rw[size_madeCells] at r;have z:K_ w (w.alloc (.cells (madeCells #[.slice none 0 0,.int .i64 0,.slice none 0 0,.int .i64 0,.int .i64 0,.bool false,.bool false,.string ⟨#[]⟩] (l.length*8)) 172)):=ak _ _;go_loopw [4] (fun t wr=>∃k:Nat,k<=l.length/\t= .int .i64 k/\K_ w wr/\Row wr w.heap.size (l.length*8)/\∀j,j<k->fV wr w.heap.size j (l.getD j Xq.zero)) (fun t _=>l.length-(intOf t).toNat)
 case atStart=>exact⟨0,OW _,rfl,z,r,fun j h=>aB h⟩
 case round=>
  obtain⟨k,hk,rfl,i,f,v⟩:=hrel;clear r z;by_cases A:k<l.length
  ·obtain⟨b,o,d,rfl,hb,c,M,N,O,Q,rfl,B,C,a6⟩:=K.kept i k A;have D:=g (l.getD k Xq.zero) (by simp[List.getD,A]);have E:=Kz v;clear v;generalize g:l.getD k Xq.zero=s at *;have R:=Kz g;clear g;have F:=c 0 _ rfl;have S:=c 1 _ rfl;have T:=c 2 _ rfl;have U:=c 3 _ rfl;have V:=c 4 _ rfl;have W:=c 5 _ rfl;have X:=c 6 _ rfl;have Y:=c 7 _ rfl;simp only[PR] at F;clear c;go_wp2_with fail
   refine (EO _ s M O N Q D.1 D.2 B C).mono ?_;rintro e x ⟨G,H,rfl,⟨Z,g2,g3,g4⟩,n⟩;have a7:=f.lt;have a0:=i.trans n;have y:=f.kept n;generalize p:s.cells (some ⟨G,0,none⟩) s.asks.length (some ⟨H,0,none⟩) s.cases.length=d;have q:d.length=8:=by rw[<-p];rfl
   have a1:d.toArray.all (·.oneCell')=true:=by rw[<-p];exact Xq.one s _ _ _ _
   have I:x.there w.heap.size (k*8) d.toArray.size:=by simpa[q] using y.there (o:=k*8) (m:=8) (by omega)
   have J:(prog.info? 172).map (·.size)=some d.toArray.size:=by rw[Tryz.tF];simp[q]
   have⟨a2,a3,a4⟩:=bA p q J;clear p q J;have HR:Hid (Row x w.heap.size (l.length*8)):=y;have a5:Hid (∀j,j<k->fV x w.heap.size j (l.getD j Xq.zero)):=fun j h=>(E.o j h).kept n f.lt
   clear E F S T U V W X Y i n f y B C;go_wp2_with (refine wpList_store_mid rfl 172 _ _ rfl w.heap.size (k*8) d.toArray rfl rfl I (aP a4) a1 ?_)
   go_roundw
   case rel=>
    refine⟨k+1,by omega,by go_num,K_.setCells (OU _) _ _ a0,Row.setCells _ _ HR.o,fun j h=>?_⟩;by_cases e:j=k
    ·subst e;rw[aP R];exact⟨G,H,by omega,by omega,by rw[a2.o];exact OY _ _ _ _ (by simpa using I),Strs.setCells (by omega) _ _ Z,dw.setCells (by omega) _ _ g2⟩
    ·exact (a5.o j (by omega)).setCells (by rw[a3.o];omega)
   case measure=>simp[intOf];omega
  ·go_wp2
   go_ret
   have:k=l.length:=by omega
   subst this;exact⟨w.heap.size,rfl,⟨f.lt,v⟩,i,OU _⟩
theorem CK(w:Qy)(a h:Qx)(cap n:Nat)(l:List Xq)(p:l.length<=maxLen)(j:∀s∈l,s.asks.length<=maxLen/\s.cases.length<=maxLen)
  (q:Steps w a l) (r:Steps w h l):
  Calls prog 167 #[.slice a l.length cap,.slice h l.length n] w fun e w'=>e= .returned (.bool true)/\K_ w w':=by
 unfold maxLen at p;go_enter func167,ntmps167
 go_wp2
 go_loopw [5] (fun i wr=>∃k:Nat,k<=l.length/\i= .int .i64 k/\K_ w wr) (fun i _=>l.length-(intOf i).toNat)
 case atStart=>exact⟨0,OW _,rfl,K_.refl _⟩
 case round=>
  obtain⟨k,J,rfl,f⟩:=hrel;by_cases g:k<l.length
  ·obtain⟨b,o,K,rfl,L,c,t,v,x,y,rfl,z,A,M⟩:=q.kept f k g;obtain⟨N,O,P,rfl,Q,d,B,C,D,E,rfl,F,G,R⟩:=r.kept f k g;have m:=j (l.getD k Xq.zero) (by simp[List.getD,g]);clear j;generalize l.getD k Xq.zero=s at *;have H:=c 0 _ rfl;have S:=c 1 _ rfl;have T:=c 2 _ rfl;have U:=c 3 _ rfl;have V:=c 4 _ rfl;have W:=c 5 _ rfl;have X:=c 6 _ rfl;have Y:=c 7 _ rfl;have I:=d 0 _ rfl;have Z:=d 1 _ rfl;have d2:=d 2 _ rfl;have d3:=d 3 _ rfl;have d4:=d 4 _ rfl;have d5:=d 5 _ rfl;have d6:=d 6 _ rfl;have d7:=d 7 _ rfl;simp only[PR] at H I;clear c d;go_wp2
   go_region_with (go_at_call 191;refine (EM _ s t x B D v y C E m.1 m.2 (z.kept (by repeat (first | apply K_.drew | exact K_.refl _))) (A.kept (by repeat (first | apply K_.drew | exact K_.refl _))) (F.kept (by repeat (first | apply K_.drew | exact K_.refl _))) (G.kept (by repeat (first | apply K_.drew | exact K_.refl _)))).mono ?_;rintro e w1 ⟨rfl,a0⟩)
   all_goals
    go_wp2
    go_roundw
    case rel=>exact⟨k+1,by omega,by go_num,by repeat (first | assumption | apply K_.drew | refine K_.trans ?_ (by assumption))⟩
    case measure=>simp[intOf];omega
  ·go_wp2
   go_ret
   exact⟨rfl,f⟩
theorem Ca(w:Qy)(cost:Int)(a:Qx)(cap:Nat)(l:List Xq)(left:Int)(g:l.length<=maxLen)(h:∀s∈l,s.Fits)
  (i:Steps w a l) (j:0<=left) (k:left<=1048576):
  Calls prog 95 #[.agg #[.int .i64 cost,.slice a l.length cap],.int .i64 left] w fun e w'=>e= .returned (.int .i64 (szL (fU l) left))/\K_ w w':=by
 have b:K_ w (w.alloc (.cells #[.int .i64 cost,.slice a l.length cap] 82)):=ak _ _;go_enter func95,ntmps95
 go_wp2_with fail
 refine (DV _ a cap l left g h (i.kept b) j k).mono ?_;rintro e m ⟨rfl,c⟩;have d:=b.trans c;clear b c;by_cases f:(fU l:Int)<=left
 ·rw[dZ f];go_wp2
  go_ret
  exact⟨aU (dZ f).symm,d⟩
 ·rw[cB (by omega)];go_wp2
  go_ret
  exact⟨aU (cB (by omega)).symm,d⟩
theorem Tryz.y_ :(prog.info? 88).map (·.size)=some 2:=by kernel_rfl
theorem BO(w:Qy)(cost:Int)(a:Qx)(cap:Nat)(l:List Xq)(g:l.length<=1048576)(h:∀s∈l,s.asks.length<=1048576/\s.cases.length<=1048576)
  (i:Steps w a l):
  Calls prog 104 #[.agg #[.int .i64 cost,.slice a l.length cap]] w fun e w'=>∃b,e= .returned (.agg #[.int .i64 cost,.slice (some ⟨b,0,none⟩) l.length l.length])/\dF w' b l/\K_ w w'/\w.heap.size<=b:=by
 go_enter func104,ntmps104
 go_wp2_with fail
 refine (Db _ a cap l g h (i.kept (by repeat (first | apply K_.alloc | exact K_.refl _)))).mono ?_;rintro e d ⟨b,rfl,j,c,k⟩;obtain⟨v,x⟩:=c.rules;have n:=c.size;simp only[PL] at k n;have p:K_ w d:=K_.trans (by repeat (first | apply K_.alloc | exact K_.refl _)) c;have f:Row d (w.heap.size+1) 2:=Row.kept (Row.alloc (by have:=Row.made (w.alloc (.cells #[.int .i64 cost,.slice a l.length cap] 82)) #[.int .i64 0,.slice none 0 0] 88;simpa using this) _) c;have q:=Kz f;clear c f;go_wp2
 have r:Row (d.setCell ⟨w.heap.size+1+1,1,none⟩ (.slice (some ⟨b,0,none⟩) l.length l.length)) (w.heap.size+1) 2:=Row.set q.o _ rfl _;have t:=OY _ (w.heap.size+1) 0 [.int .i64 cost,.slice (some ⟨b,0,none⟩) l.length l.length] (r.there (o:=0) (m:=2) (OU _));refine Zx [.int .i64 cost,.slice (some ⟨b,0,none⟩) l.length l.length] _ results104 rfl t underlying88 rfl Tryz.y_ rfl ⟨b,rfl, ?_, ?_,by omega⟩
 ·repeat (first | (refine dF.setCell ?_ (by simp <;> omega) _) | exact j)
 ·repeat (first | (refine K_.setCell ?_ (by simp <;> omega) _) | exact p)
theorem Bi(w:Qy)(cost:Int)(a b:Qx)(cap d:Nat)(l:List Xq)(g:l.length<=maxLen)(h:∀s∈l,s.asks.length<=maxLen/\s.cases.length<=maxLen)
  (i:Steps w a l) (j:Steps w b l):
  Calls prog 136 #[.agg #[.int .i64 cost,.slice a l.length cap],.agg #[.int .i64 cost,.slice b l.length d]] w fun e w'=>e= .returned (.bool true)/\K_ w w':=by
 have c:K_ w ((w.alloc (.cells #[.int .i64 cost,.slice a l.length cap] 88)).alloc (.cells #[.int .i64 cost,.slice b l.length d] 88)):=(ak _ _).alloc _;go_enter func136,ntmps136
 go_wp2_with fail
 refine (CK _ a b cap d l g h (i.kept (by repeat (first | apply K_.drew | exact c))) (j.kept (by repeat (first | apply K_.drew | exact c)))).mono ?_;rintro e k ⟨rfl,f⟩;have m:K_ w k:=K_.trans (by repeat (first | apply K_.drew | exact c)) f;clear c f;go_wp2
 go_ret
 exact⟨rfl,m⟩
structure Qz where
 name:Qw
 cost:Int
 steps:List Xq
def Qz.zero :Qz:=⟨ByteArray.empty,0,[]⟩
def Qz.cells(d:Qz)(a:Qx)(cap:Nat):List QA:=[.string d.name,.int .i64 d.cost,.slice a d.steps.length cap]
theorem Qz.one(d:Qz)(a:Qx)(cap:Nat):(d.cells a cap).toArray.all (·.oneCell')=true:=
 all_oneCell_toArray (by simp[Qz.cells,Value.oneCell'])
def tQ(w:Qy)(cs:List QA)(d:Qz):Prop:=∃a cap,cs=d.cells a cap/\Steps w a d.steps
theorem tQ.kept{cs:List QA}{d:Qz}(h:tQ w cs d)(k:K_ w w'):tQ w' cs d:=by
 obtain⟨a,c,e,f⟩:=h;exact⟨a,c,e,f.kept k⟩
def bJ(w:Qy)(a:Qx)(l:List Qz):Prop:=
 ∀i,i<l.length->∃b o cs,a=some ⟨b,o,none⟩/\b<w.heap.size/\w.rangeAt b (o+i*3) cs/\tQ w cs (l.getD i Qz.zero)
variable {l : List Qz}
theorem bJ.kept{a:Qx}(h:bJ w a l)(k:K_ w w'):bJ w' a l:=by
 intro i c;obtain⟨d,o,e,f,b,g,j⟩:=h i c;exact⟨d,o,e,f,OV b k.size,k.range b g,j.kept k⟩
structure Qz.Fits (d:Qz):Prop where
 name:d.name.size<=maxLen
 cost:In64 d.cost
 steps:d.steps.length<=maxLen
 each:∀s∈d.steps,s.Fits
theorem fV.jO{g o:Nat}{s:Xq}(h:fV w B j s)(k:g<B):fV (w.setCells g o vs) B j s:=by
 obtain⟨a,b,c,d,e,f,i⟩:=h;exact⟨a,b,c,d,Pm e _ _ _ (by omega),Strs.setCells (by omega) _ _ f,dw.setCells (by omega) _ _ i⟩
theorem size_setCells(g:Nat):∀(vs:List QA) (o:Nat) (w:Qy),(w.setCells g o vs).heap.size=w.heap.size
 | [],_,_=>rfl
 | v :: r,o,w=>by rw[World.setCells,size_setCells g r (o+1),size_setCell]
theorem dF.jO{g o:Nat}{l:List Xq}(h:dF w B l)(b:g<B):dF (w.setCells g o vs) B l:=
 ⟨by rw[size_setCells];exact h.1,fun j d=>(h.2 j d).jO b⟩
def iC(w:Qy)(B j:Nat)(d:Qz):Prop:=
 ∃b1,B<b1/\w.rangeAt B (j*3) (d.cells (some ⟨b1,0,none⟩) d.steps.length)/\dF w b1 d.steps
theorem iC.kept{d:Qz}(h:iC w B j d)(k:K_ w w')(b:B<w.heap.size):iC w' B j d:=by
 obtain⟨c,e,f,g⟩:=h;exact⟨c,e,k.range b f,g.kept k⟩
theorem iC.setCells{o:Nat}{d:Qz}(h:iC w B j d)(c:j*3+3<=o\/o+vs.length<=j*3):iC (w.setCells B o vs) B j d:=by
 obtain⟨e,a,f,g⟩:=h;exact⟨e,a,Pm f _ _ _ (by right;simpa[Qz.cells] using c),g.jO a⟩
theorem iC.setCell{d:Qz}(h:iC w B j d){p:Addr}(a:p.block<B)(v:QA):iC (w.setCell p v) B j d:=by
 obtain⟨b,c,e,f⟩:=h;exact⟨b,c,fun i u g=>by rw[Pq _ _ _ _ (fun k=>by rw[k] at a;simp at a)];exact e i u g,f.setCell (by omega) v⟩
def gX(w:Qy)(B:Nat)(l:List Qz):Prop:=B<w.heap.size/\∀j,j<l.length->iC w B j (l.getD j Qz.zero)
theorem gX.setCell(h:gX w B l){p:Addr}(b:p.block<B)(v:QA):gX (w.setCell p v) B l:=
 ⟨by rw[size_setCell];exact h.1,fun j d=>(h.2 j d).setCell b v⟩
theorem gX.kept(h:gX w B l)(k:K_ w w'):gX w' B l:=
 ⟨OV h.1 k.size,fun j c=>(h.2 j c).kept k h.1⟩
theorem gX.nodes(h:gX w B l):bJ w (some ⟨B,0,none⟩) l:=by
 intro j c;obtain⟨f,_,d,e⟩:=h.2 j c;exact⟨B,0,_,rfl,h.1,by rw[PD];exact d,_,_,rfl,e.steps⟩
theorem eG :∀(x y z:List UInt8),Op.bytesLess x y=true->Op.bytesLess y z=true->Op.bytesLess x z=true
 | [],[],_,h,_=>by simp[Op.bytesLess] at h
 | [],_ :: _,[],_,h=>by simp[Op.bytesLess] at h
 | [],_ :: _,_ :: _,_,_=>by simp[Op.bytesLess]
 | _ :: _,[],_,h,_=>by simp[Op.bytesLess] at h
 | _ :: _,_ :: _,[],_,h=>by simp[Op.bytesLess] at h
 | a :: x,b :: y,c :: z,e,d=>by
  have f:=eG x y z;simp only[Op.bytesLess,Bool.or_eq_true,Bool.and_eq_true,Qp,beq_iff_eq] at e d⊢;rcases e with e|⟨rfl,e⟩
  ·rcases d with d|⟨rfl,d⟩
   ·exact .inl (UInt8.lt_trans e d)
   ·exact .inl e
  ·rcases d with d|⟨rfl,d⟩
   ·exact .inl d
   ·exact .inr ⟨rfl,f e d⟩
theorem fO :∀x:List UInt8,Op.bytesLess x x=false
 | []=>rfl
 | a :: x=>by
  have b:=fO x;simp[Op.bytesLess,b]
theorem rC :∀x y:List UInt8,Op.bytesLess x y=false->x≠y->Op.bytesLess y x=true
 | [],[],_,h=>Qi rfl h
 | [],_ :: _,h,_=>by simp[Op.bytesLess] at h
 | _ :: _,[],_,_=>rfl
 | a :: x,b :: y,h,hne=>by
  have f:=rC x y;simp only[Op.bytesLess,Bool.or_eq_false_iff,Qn,Bool.and_eq_false_iff,beq_eq_false_iff_ne] at h;simp only[Op.bytesLess,Bool.or_eq_true,Bool.and_eq_true,Qp,beq_iff_eq];by_cases e:a=b
  ·subst e
   right
   refine⟨rfl,f ?_ (fun e=>hne (by rw[e]))⟩;rcases h.2 with c | c
   ·exact Qi rfl c
   ·exact c
  ·left
   have d:=h.1;rw[UInt8.not_lt] at d;exact UInt8.lt_of_le_of_ne d (fun g=>e g.symm)
def nameAt(l:List Qz)(i:Nat):List UInt8:=(l.getD i Qz.zero).name.toList
def mV(l:List Qz):Prop:=∀i j,i<j->j<l.length->Op.bytesLess (nameAt l i) (nameAt l j)=true
theorem Ld(h:∀i,i+1<l.length->Op.bytesLess (nameAt l i) (nameAt l (i+1))=true):mV l:=by
 intro i j b a
 induction j with
 | zero=>omega
 | succ j ih=>
  by_cases e:i=j
  ·subst e;exact h i a
  ·exact eG _ _ _ (ih (by omega) (by omega)) (h j a)
structure Place (l:List Qz) (key:List UInt8) (p:Nat):Prop where
 le:p<=l.length
 before:∀j,j<p->Op.bytesLess (nameAt l j) key=true
 behind:∀j,p<=j->j<l.length->Op.bytesLess (nameAt l j) key=false
theorem Place.only{a:List UInt8}{p:Nat}(c:mV l)(h:Place l a p)(d:j<l.length)(e:nameAt l j=a):j=p:=by
 by_cases f:j<p
 ·have:=h.before j f;rw[e,fO] at this;cases this
 ·by_cases g:p<j
  ·have b:=c p j g d;rw[e] at b;have:=h.behind p (OU _) (by omega);rw[b] at this;cases this
  ·omega
def eQ(d:Qz):Nat:=d.name.size+fU d.steps
theorem Gi(w:Qy)(d:Qz)(a:Qx)(cap:Nat)(left:Int)(c:d.Fits)(h:Steps w a d.steps)(k:0<=left)(l:left<=1048576):
  Calls prog 43 #[.agg #[.string d.name,.int .i64 d.cost,.slice a d.steps.length cap],.int .i64 left] w fun e w'=>e= .returned (.int .i64 (szL (eQ d) left))/\K_ w w':=by
 have i:=c.name;unfold maxLen at i;have b:K_ w (w.alloc (.cells #[.string d.name,.int .i64 d.cost,.slice a d.steps.length cap] 84)):=ak _ _;by_cases m:(d.name.size:Int)<=left
 ·go_enter func43,ntmps43
  go_wp2_with fail
  refine (Ca _ d.cost a cap d.steps _ c.steps c.each (h.kept b) (by omega) (by omega)).mono ?_;rintro e n ⟨rfl,f⟩;have g:=b.trans f;clear b f;by_cases j:(fU d.steps:Int)<=left-d.name.size
  ·rw[dZ j];go_wp2
   go_ret
   exact⟨aU (by rw[dZ (by unfold eQ;omega)];unfold eQ;omega),g⟩
  ·rw[cB (by omega)];go_wp2
   go_ret
   exact⟨aU (cB (by unfold eQ;omega)).symm,g⟩
 ·go_enter func43,ntmps43
  go_wp2
  go_ret
  exact⟨aU (cB (by unfold eQ;omega)).symm,b⟩
theorem Gr(w:Qy)(d:Qz)(a b:Qx)(cap f:Nat)(g:d.Fits)(k:Steps w a d.steps)(l:Steps w b d.steps):
  Calls prog 90 #[.agg #[.string d.name,.int .i64 d.cost,.slice a d.steps.length cap],.agg #[.string d.name,.int .i64 d.cost,.slice b d.steps.length f]] w fun e w'=>e= .returned (.bool true)/\K_ w w':=by
 have c:K_ w ((w.alloc (.cells #[.string d.name,.int .i64 d.cost,.slice a d.steps.length cap] 90)).alloc (.cells #[.string d.name,.int .i64 d.cost,.slice b d.steps.length f] 90)):=(ak _ _).alloc _;go_enter func90,ntmps90
 go_wp2_with fail
 refine (Bi _ d.cost a b cap f d.steps g.steps (fun s i=>⟨(g.each s i).asks,(g.each s i).cases⟩) (k.kept (by repeat (first | apply K_.drew | exact c))) (l.kept (by repeat (first | apply K_.drew | exact c)))).mono ?_;rintro e m ⟨rfl,j⟩;have n:K_ w m:=K_.trans (by repeat (first | apply K_.drew | exact c)) j;clear c j;go_wp2
 go_ret
 exact⟨rfl,n⟩
theorem Tryz.tO :(prog.info? 90).map (·.size)=some 3:=by kernel_rfl
theorem FT(w:Qy)(d:Qz)(a:Qx)(cap:Nat)(h:d.steps.length<=1048576)(i:∀s∈d.steps,s.asks.length<=1048576/\s.cases.length<=1048576)(j:Steps w a d.steps):
  Calls prog 59 #[.agg #[.string d.name,.int .i64 d.cost,.slice a d.steps.length cap]] w fun e w'=>∃b,e= .returned (.agg (d.cells (some ⟨b,0,none⟩) d.steps.length).toArray)/\dF w' b d.steps/\K_ w w'/\w.heap.size<=b:=by
 go_enter func59,ntmps59
 go_wp2_with fail
 refine (BO _ d.cost a cap d.steps h i (j.kept (by repeat (first | apply K_.alloc | exact K_.refl _)))).mono ?_;rintro e f ⟨b,rfl,k,c,l⟩;obtain⟨v,x⟩:=c.rules;have n:=c.size;simp only[PL] at l n;have p:K_ w f:=K_.trans (by repeat (first | apply K_.alloc | exact K_.refl _)) c;have g:Row f (w.heap.size+1) 3:=Row.kept (Row.alloc (by have:=Row.made (w.alloc (.cells #[.string d.name,.int .i64 d.cost,.slice a d.steps.length cap] 84)) #[.string ⟨#[]⟩,.int .i64 0,.slice none 0 0] 90;simpa using this) _) c;have q:=Kz g;clear c g;go_wp2
 have r:Row ((f.setCell ⟨w.heap.size+1+1,1,none⟩ (.int .i64 d.cost)).setCell ⟨w.heap.size+1+1,2,none⟩ (.slice (some ⟨b,0,none⟩) d.steps.length d.steps.length)) (w.heap.size+1) 3:=Row.set (Row.set q.o _ rfl _) _ rfl _;have t:=OY _ (w.heap.size+1) 0 (d.cells (some ⟨b,0,none⟩) d.steps.length) (r.there (o:=0) (m:=3) (OU _));refine Zx (d.cells (some ⟨b,0,none⟩) d.steps.length) _ results59 rfl t underlying90 rfl Tryz.tO rfl ⟨b,rfl, ?_, ?_,by omega⟩
 ·repeat (first | (refine dF.setCell ?_ (by simp <;> omega) _) | exact k)
 ·repeat (first | (refine K_.setCell ?_ (by simp <;> omega) _) | exact p)
def eX(l:List Qz):Nat:=l.length+ (l.map eQ).sum
theorem Dk(w:Qy)(a:Qx)(cap:Nat)(l:List Qz)(left:Int)(r:l.length<=maxLen)(t:∀s∈l,s.Fits)
  (v:bJ w a l) (D:0<=left) (E:left<=1048576):
  Calls prog 17 #[.slice a l.length cap,.int .i64 left] w fun e w'=>e= .returned (.int .i64 (szL (eX l) left))/\K_ w w':=by
 unfold maxLen at r;go_enter func17,ntmps17
 go_wp2
 ·go_ret
  exact⟨aU (cB (by unfold eX;omega)).symm,K_.refl _⟩
 ·go_loopw [1,5] (fun x i wr=>∃k:Nat,k<=l.length/\i= .int .i64 k/\x= .int .i64 (left-l.length-sumTo eQ l k)/\0<=left-l.length-sumTo eQ l k/\K_ w wr) (fun _ i _=>l.length-(intOf i).toNat)
  case atStart=>exact⟨0,OW _,rfl,by simp[eD],by simp[eD];omega,K_.refl _⟩
  case round=>
   obtain⟨k,F,rfl,rfl,y,c⟩:=hrel;by_cases f:k<l.length
   ·obtain⟨b,o,G,rfl,H,d,z,A,rfl,g⟩:=v.kept c k f;have B:(l.getD k Qz.zero).Fits:=t _ (by simp[List.getD,f]);have h:Hid (sumTo eQ l (k+1)=sumTo eQ l k+eQ (l.getD k Qz.zero)):=iK _ l _ k f;have I:=sumTo_le eQ l (k+1);generalize l.getD k Qz.zero=s at *;have j:=d 0 _ rfl;have n:=d 1 _ rfl;have p:=d 2 _ rfl;simp only[PR] at j;clear d;go_wp2_with fail
    refine (Gi _ s z A _ B g (by omega) (by omega)).mono ?_;rintro e J ⟨rfl,m⟩;have q:=c.trans m;by_cases C:(eQ s:Int)<=left-l.length-sumTo eQ l k
    ·rw[dZ C];clear j n p g c m;go_wp2
     go_roundw
     case rel=>exact⟨k+1,by omega,by go_num,by rw[h.o];go_num,by rw[h.o];omega,q⟩
     case measure=>simp[intOf];omega
    ·rw[cB (by omega)];clear j n p g c m;go_wp2
     go_ret
     exact⟨aU (cB (by unfold eX;have:=h.o;omega)).symm,q⟩
   ·go_wp2
    go_ret
    have:k=l.length:=by omega
    subst this;rw[jD] at y⊢;exact⟨aU (by rw[dZ (by unfold eX;omega)];unfold eX;omega),c⟩
theorem Tryz.EA :(prog.info? 90).map (fun i=>(i.zero,i.size,i.bytes))=some (some (.agg #[.string ⟨#[]⟩,.int .i64 0,.slice none 0 0]),3,48):=by kernel_rfl
theorem DY(w:Qy)(a:Qx)(cap:Nat)(l:List Qz)(Z:l.length<=1048576)(f:∀s∈l,s.steps.length<=1048576/\∀x∈s.steps,x.asks.length<=1048576/\x.cases.length<=1048576)
  (J:bJ w a l):
  Calls prog 27 #[.slice a l.length cap] w fun e w'=>∃b,e= .returned (.slice (some ⟨b,0,none⟩) l.length l.length)/\gX w' b l/\K_ w w'/\w.heap.size<=b:=by
 have K:=dJ (P:=prog) 35 90 _ _ _ underlying35 Tryz.EA .i64 .i64 l.length (by omega) (by omega);go_enter func27,ntmps27
 go_wp2
 clear K;have r:=Row.made w (madeCells #[.string ⟨#[]⟩,.int .i64 0,.slice none 0 0] (l.length*3)) 90;rw[size_madeCells] at r;have A:K_ w (w.alloc (.cells (madeCells #[.string ⟨#[]⟩,.int .i64 0,.slice none 0 0] (l.length*3)) 90)):=ak _ _;go_loopw [4] (fun t wr=>∃k:Nat,k<=l.length/\t= .int .i64 k/\K_ w wr/\Row wr w.heap.size (l.length*3)/\∀j,j<k->iC wr w.heap.size j (l.getD j Qz.zero)) (fun t _=>l.length-(intOf t).toNat)
 case atStart=>exact⟨0,OW _,rfl,A,r,fun j g=>aB g⟩
 case round=>
  obtain⟨k,hk,rfl,h,d,v⟩:=hrel;clear r A;by_cases B:k<l.length
  ·obtain⟨b,o,c,rfl,hb,i,L,M,rfl,C⟩:=J.kept h k B;have D:=f (l.getD k Qz.zero) (by simp[List.getD,B]);have E:=Kz v;clear v;generalize f:l.getD k Qz.zero=s at *;have N:=Kz f;clear f;have F:=i 0 _ rfl;have O:=i 1 _ rfl;have Q:=i 2 _ rfl;simp only[PR] at F;clear i;go_wp2_with fail
   refine (FT _ s L M D.1 D.2 C).mono ?_;rintro e y ⟨G,rfl,R,n,g3⟩;have a0:=d.lt;have S:=h.trans n;have z:=d.kept n;generalize p:s.cells (some ⟨G,0,none⟩) s.steps.length=c;have q:c.length=3:=by rw[<-p];rfl
   have T:c.toArray.all (·.oneCell')=true:=by rw[<-p];exact Qz.one s _ _
   have H:y.there w.heap.size (k*3) c.toArray.size:=by simpa[q] using z.there (o:=k*3) (m:=3) (by omega)
   have I:(prog.info? 90).map (·.size)=some c.toArray.size:=by rw[Tryz.tO];simp[q]
   have⟨U,V,W⟩:=bA p q I;clear p q I;have X:Hid (Row y w.heap.size (l.length*3)):=z;have Y:Hid (∀j,j<k->iC y w.heap.size j (l.getD j Qz.zero)):=fun j g=>(E.o j g).kept n d.lt
   clear E F O Q h n d z C;go_wp2_with (refine wpList_store_mid rfl 90 _ _ rfl w.heap.size (k*3) c.toArray rfl rfl H (aP W) T ?_)
   go_roundw
   case rel=>
    refine⟨k+1,by omega,by go_num,K_.setCells (OU _) _ _ S,Row.setCells _ _ X.o,fun j g=>?_⟩;by_cases e:j=k
    ·subst e;rw[aP N];exact⟨G,by omega,by rw[U.o];exact OY _ _ _ _ (by simpa using H),dF.jO R (by omega)⟩
    ·exact (Y.o j (by omega)).setCells (by rw[V.o];omega)
   case measure=>simp[intOf];omega
  ·go_wp2
   go_ret
   have:k=l.length:=by omega
   subst this;exact⟨w.heap.size,rfl,⟨d.lt,v⟩,h,OU _⟩
theorem Dm(w:Qy)(a h:Qx)(cap m:Nat)(l:List Qz)(n:l.length<=maxLen)(j:∀s∈l,s.Fits)
  (p:bJ w a l) (q:bJ w h l):
  Calls prog 36 #[.slice a l.length cap,.slice h l.length m] w fun e w'=>e= .returned (.bool true)/\K_ w w':=by
 unfold maxLen at n;go_enter func36,ntmps36
 go_wp2
 go_loopw [5] (fun i wr=>∃k:Nat,k<=l.length/\i= .int .i64 k/\K_ w wr) (fun i _=>l.length-(intOf i).toNat)
 case atStart=>exact⟨0,OW _,rfl,K_.refl _⟩
 case round=>
  obtain⟨k,D,rfl,f⟩:=hrel;by_cases g:k<l.length
  ·obtain⟨b,o,E,rfl,F,c,r,t,rfl,v⟩:=p.kept f k g;obtain⟨G,H,I,rfl,J,d,x,y,rfl,z⟩:=q.kept f k g;have A:=j (l.getD k Qz.zero) (by simp[List.getD,g]);clear j;generalize l.getD k Qz.zero=s at *;have B:=c 0 _ rfl;have K:=c 1 _ rfl;have L:=c 2 _ rfl;have C:=d 0 _ rfl;have M:=d 1 _ rfl;have N:=d 2 _ rfl;simp only[PR] at B C;clear c d;go_wp2
   go_region_with (go_at_call 90;refine (Gr _ s r x t y A (v.kept (by repeat (first | apply K_.drew | exact K_.refl _))) (z.kept (by repeat (first | apply K_.drew | exact K_.refl _)))).mono ?_;rintro e O ⟨rfl,P⟩)
   all_goals
    go_wp2
    go_roundw
    case rel=>exact⟨k+1,by omega,by go_num,by repeat (first | assumption | apply K_.drew | refine K_.trans ?_ (by assumption))⟩
    case measure=>simp[intOf];omega
  ·go_wp2
   go_ret
   exact⟨rfl,f⟩
theorem Jt(w:Qy)(a:Qx)(cap:Nat)(l:List Qz)(left:Int)(g:l.length<=maxLen)(h:∀s∈l,s.Fits)(i:bJ w a l)(j:0<=left)(k:left<=1048576):
  Calls prog 4 #[.agg #[.slice a l.length cap],.int .i64 left] w fun e w'=>e= .returned (.int .i64 (szL (eX l) left))/\K_ w w':=by
 have b:K_ w (w.alloc (.cells #[.slice a l.length cap] 24)):=ak _ _;go_enter func4,ntmps4
 go_wp2_with fail
 refine (Dk _ a cap l left g h (i.kept b) j k).mono ?_;rintro e m ⟨rfl,c⟩;have d:=b.trans c;clear b c;by_cases f:(eX l:Int)<=left
 ·rw[dZ f];go_wp2
  go_ret
  exact⟨aU (dZ f).symm,d⟩
 ·rw[cB (by omega)];go_wp2
  go_ret
  exact⟨aU (cB (by omega)).symm,d⟩
theorem Tryz.Im :(prog.info? 37).map (·.size)=some 1:=by kernel_rfl
theorem tY(w:Qy)(a:Qx)(cap:Nat)(l:List Qz)(g:l.length<=1048576)(h:∀s∈l,s.steps.length<=1048576/\∀x∈s.steps,x.asks.length<=1048576/\x.cases.length<=1048576)(i:bJ w a l):
  Calls prog 7 #[.agg #[.slice a l.length cap]] w fun e w'=>∃b,e= .returned (.agg #[.slice (some ⟨b,0,none⟩) l.length l.length])/\gX w' b l/\K_ w w'/\w.heap.size<=b:=by
 go_enter func7,ntmps7
 go_wp2_with fail
 refine (DY _ a cap l g h (i.kept (by repeat (first | apply K_.alloc | exact K_.refl _)))).mono ?_;rintro e d ⟨b,rfl,j,c,k⟩;obtain⟨v,y⟩:=c.rules;have n:=c.size;simp only[PL] at k n;have p:K_ w d:=K_.trans (by repeat (first | apply K_.alloc | exact K_.refl _)) c;have f:Row d (w.heap.size+1) 1:=Row.kept (Row.alloc (by have:=Row.made (w.alloc (.cells #[.slice a l.length cap] 24)) #[.slice none 0 0] 37;simpa using this) _) c;have q:=Kz f;clear c f;go_wp2
 have r:Row (d.setCell ⟨w.heap.size+1+1,0,none⟩ (.slice (some ⟨b,0,none⟩) l.length l.length)) (w.heap.size+1) 1:=Row.set q.o _ rfl _;have t:=OY _ (w.heap.size+1) 0 [.slice (some ⟨b,0,none⟩) l.length l.length] (r.there (o:=0) (m:=1) (OU _));refine Zx [.slice (some ⟨b,0,none⟩) l.length l.length] _ results7 rfl t underlying37 rfl Tryz.Im rfl ⟨b,rfl, ?_, ?_,by omega⟩
 ·repeat (first | (refine gX.setCell ?_ (by simp <;> omega) _) | exact j)
 ·repeat (first | (refine K_.setCell ?_ (by simp <;> omega) _) | exact p)
theorem Jo(w:Qy)(a b:Qx)(cap d:Nat)(l:List Qz)(g:l.length<=maxLen)(h:∀s∈l,s.Fits)(i:bJ w a l)(j:bJ w b l):
  Calls prog 11 #[.agg #[.slice a l.length cap],.agg #[.slice b l.length d]] w fun e w'=>e= .returned (.bool true)/\K_ w w':=by
 have c:K_ w ((w.alloc (.cells #[.slice a l.length cap] 37)).alloc (.cells #[.slice b l.length d] 37)):=(ak _ _).alloc _;go_enter func11,ntmps11
 go_wp2_with fail
 refine (Dm _ a b cap d l g h (i.kept (by repeat (first | apply K_.drew | exact c))) (j.kept (by repeat (first | apply K_.drew | exact c)))).mono ?_;rintro e k ⟨rfl,f⟩;have m:K_ w k:=K_.trans (by repeat (first | apply K_.drew | exact c)) f;clear c f;go_wp2
 go_ret
 exact⟨rfl,m⟩
