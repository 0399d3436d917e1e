import Derived.Test.YtbmhchdegdjfkaaGreatDoorKVAppr
import Derived.Deep.RegionLaw
set_option maxRecDepth 100000
set_option maxHeartbeats 25600000
namespace Go.Proofs.YtbmhchdegdjfkaaGreatDoor
open Go.RowKit Go.Proofs.Tryz
def yo(v:KC):List KI:=[.string v,.bool false,.bool false,.string ⟨#[]⟩,.int .i64 0,.int .i64 0,.slice none 0 0]
theorem Bg(v:KC):∀u∈yo v,u.oneCell'=true:=Q_.one (Q_.fresh v) none 0
theorem wY(s w:KH)(f:Nat)(a9:s.heap.size<=f)(a:KG)(m:Nat)(c:List Qz)(Z:KG)(rc:Nat)(n:List KC)(l:List Q_)(d0:KG)(a0:Nat)(a1:List KI)(O:c.length<=1048576)(c4:n.length<=100)(c5:l.length<=1000)
  (h:KnX s w f a c.length m l d0 a0 a1) (P:bY s a c) (hR:Strs s Z n):
  Calls prog 85 #[.pointer (some ⟨f,0,none⟩),.slice Z n.length rc] w fun e w'=>e= .returned (.tuple #[])/\∃d j t,KnX s w' f a c.length m (fB (Kk c) l n) d j t:=by
 have HK:=Kz h;clear h;go_enter func85,ntmps85
 go_wp2
 go_loopw [4] (fun i wr=>∃(k:Nat) (d:KG) (j:Nat) (t:List KI),k<=n.length/\i= .int .i64 k/\KnX s wr f a c.length m (fB (Kk c) l (n.take k)) d j t) (fun i _=>n.length-(intOf i).toNat)
 case atStart=>exact⟨0,d0,a0,a1,Ja _,rfl,HK.o⟩
 case round=>
  obtain⟨k,d,j,t,hk,rfl,q⟩:=hrel;by_cases a2:k<n.length
  ·obtain⟨r,o,rfl,H,Q⟩:=hR k a2;have C:K_ s wr:=q.kw;obtain⟨R,S⟩:=ah (fB (Kk c) l (n.take k));have I:=Cb (Kk c) l a2;rw[<-S] at q I;have c6:R.length<=1100:=by rw[S];have:=nU (Kk c) (n.take k) l;rw[Jt] at this;omega
   obtain⟨v,a3⟩:=ah (n.getD k ByteArray.empty);rw[<-a3] at Q I;have T:=Kz I;have J:=(C.cell H).trans Q;have U:=q.known.web;have V:=q.known.runs;have L:=q.known.row.lt;have⟨a4,x⟩:=aD q.runs q;clear S a3 I q HK;have W:r<wr.heap.size:=I_ H C.size;have i0:(k:Int)<(n.length:Int):=by omega
   by_cases D:(Kk c v).isSome=true
   ·have E:Hid (∀w',K_ wr w'->(fun w'=>w'.cell? ⟨f,0,none⟩=some (.slice a c.length m)/\w'.cell? ⟨f,1,none⟩=some (.slice d R.length j)/\w'.cell? ⟨r,o+k,none⟩=some (.string v)) w'):=fun w' A=>⟨(A.cell L).trans U,(A.cell L).trans V,(A.cell W).trans J⟩
    by_cases M:(Qq R v).isNone=true
    ·go_wp2
     go_region_held (fun w'=>w'.cell? ⟨f,0,none⟩=some (.slice a c.length m)/\w'.cell? ⟨f,1,none⟩=some (.slice d R.length j)/\w'.cell? ⟨r,o+k,none⟩=some (.string v)) (exact aW E _ (by repeat (first | (with_reducible exact K_.refl _) | (with_reducible assumption) | apply K_.drew))) ((first | (go_at_call 44;refine (zB _ a m c v O (P.kept (C.trans (by repeat (first | (with_reducible exact K_.refl _) | (with_reducible assumption) | apply K_.drew)))) D).mono ?_;rintro e w1 ⟨⟨r1,rfl⟩,F⟩;have p:K_ wr w1:=K_.trans (by repeat (first | (with_reducible exact K_.refl _) | (with_reducible assumption) | apply K_.drew)) F) | (go_at_call 123;refine (EX _ f a c.length m d j R v (by omega) (x.o.known.kept (p.trans (by repeat (first | (with_reducible exact K_.refl _) | (with_reducible assumption) | apply K_.drew)))) (a4.o.kept (p.trans (by repeat (first | (with_reducible exact K_.refl _) | (with_reducible assumption) | apply K_.drew)))) M).mono ?_;rintro e w2 ⟨⟨r2,rfl,c7⟩,rfl⟩)))
     all_goals
      have G:=x.o.kept p;have X:=Kz G;have n1:=G.known.runs;have n0:=(p.cell W).trans J;have z2:=G.kw.size;have b0:r<w2.heap.size:=I_ H z2;have b1:f<w2.heap.size:=G.known.row.lt;have b2:Hid (∀w',K_ w2 w'->(fun w'=>w'.cell? ⟨f,1,none⟩=some (.slice d R.length j)/\w'.cell? ⟨r,o+k,none⟩=some (.string v)) w'):=fun w' bl=>⟨(bl.cell b1).trans n1,(bl.cell b0).trans n0⟩
      obtain⟨b3,b4,b5,b6,b7⟩:=aO Tryz.nQ;clear G;go_wp2
      refine Qk.region (by kernel_rfl) (fun w'=>w'.cell? ⟨f,1,none⟩=some (.slice d R.length j)/\w'.cell? ⟨r,o+k,none⟩=some (.string v)) 14 ⟨n1,n0⟩ (fun b=>?_);refine aB 0 b ?_;refine aB 4 b ?_;refine ae 8 b ?_;refine ae 9 b ?_;refine af 10 (fun K h=>?_);go_simp
      have N:K_ w2 (w2.alloc (.cells (yo v).toArray 40)).drew:=(ag _ _).drew;refine h.out _ _ (fun _=>b2.o _ N) ?_;clear h K b;try simp only[Act.put,upA,upB,upC]
      refine af 11 (fun K h=>?_);refine step_append_lies _ rfl (.tmp 34) (.tmp 40) 27 rfl s.heap.size 40 b3 _ 7 80 underlying27 b4 b5 b6 b7 rfl (by decide) (.slice d R.length j) R.length t (by simp[Act.eval]) (aj X.o.own N) ⟨w2.heap.size,0,none⟩ 1 1 (yo v) (by simp[Act.eval]) rfl (fun b8 u hu=>by rw[JL];exact X_ w2 (yo v).toArray 40 b8 u (by simpa using hu)) (Bg v) (by omega) (by unfold maxLen;omega) (by omega) (by simp;omega) _ rfl ?_;intro g6 b9 w8 a5 Y c0 c8;obtain⟨c1,a6⟩:=X.o.grown N Y;have a7:=a6.row;obtain⟨⟨_,c9⟩,d1⟩:=a7.row.at (i:=1) (by omega);have a8:=(show _/\_ from ⟨a6.runs,(c1.cell H).trans Q⟩);have c2:=Kz (KnX.next (y:=Q_.fresh v) (xa:=none) (xc:=0) X.o a9 N Y a5 (fun i hi=>by cases hi) (fun _=>rfl));clear a5 Y c0 a7;refine h.out _ _ (fun _=>a8) ?_;clear h K;try simp only[Act.put,upA,upB,upC]
      have b:=a8;refine ae 12 b ?_;refine ae 13 b ?_;refine af 14 (fun K h=>?_);go_simp
      refine h.out _ _ (fun B=>Ki rfl B) ?_;clear h K;try simp only[Act.put,upA,upB,upC]
      refine ay ?_;go_wp2
      go_roundw
      case rel=>exact⟨k+1,_,b9,_,by omega,by go_num,by rw[T.o,Kg ⟨D,M⟩];exact c2.o⟩
      case measure=>simp[intOf];omega
    ·go_wp2
     go_region_held (fun w'=>w'.cell? ⟨f,0,none⟩=some (.slice a c.length m)/\w'.cell? ⟨f,1,none⟩=some (.slice d R.length j)/\w'.cell? ⟨r,o+k,none⟩=some (.string v)) (exact aW E _ (by repeat (first | (with_reducible exact K_.refl _) | (with_reducible assumption) | apply K_.drew))) ((first | (go_at_call 44;refine (zB _ a m c v O (P.kept (C.trans (by repeat (first | (with_reducible exact K_.refl _) | (with_reducible assumption) | apply K_.drew)))) D).mono ?_;rintro e w1 ⟨⟨r1,rfl⟩,F⟩;have p:K_ wr w1:=K_.trans (by repeat (first | (with_reducible exact K_.refl _) | (with_reducible assumption) | apply K_.drew)) F) | (go_at_call 123;refine (EW _ f a c.length m d j R v (by omega) (x.o.known.kept (p.trans (by repeat (first | (with_reducible exact K_.refl _) | (with_reducible assumption) | apply K_.drew)))) (a4.o.kept (p.trans (by repeat (first | (with_reducible exact K_.refl _) | (with_reducible assumption) | apply K_.drew)))) M).mono ?_;rintro e w2 ⟨⟨r2,rfl⟩,rfl⟩)))
     all_goals
      go_wp2
      go_roundw
      case rel=>exact⟨k+1,d,j,t,by omega,by go_num,by rw[T.o,Kh (fun B=>M B.2)];exact x.o.kept p⟩
      case measure=>simp[intOf];omega
   ·have E:Hid (∀w',K_ wr w'->(fun w'=>w'.cell? ⟨f,0,none⟩=some (.slice a c.length m)/\w'.cell? ⟨f,1,none⟩=some (.slice d R.length j)/\w'.cell? ⟨r,o+k,none⟩=some (.string v)) w'):=fun w' A=>⟨(A.cell L).trans U,(A.cell L).trans V,(A.cell W).trans J⟩
    go_wp2
    refine Qk.region (by kernel_rfl) (fun w'=>w'.cell? ⟨f,0,none⟩=some (.slice a c.length m)/\w'.cell? ⟨f,1,none⟩=some (.slice d R.length j)/\w'.cell? ⟨r,o+k,none⟩=some (.string v)) 18 ⟨U,V,J⟩ (fun b=>?_);refine aB 0 b ?_;refine aB 4 b ?_;refine ai 8 (fun K h=>?_);go_simp
    go_at_call 44
    refine (EB _ a m c v O (P.kept (C.trans (by repeat (first | (with_reducible exact K_.refl _) | (with_reducible assumption) | apply K_.drew)))) D).mono ?_;rintro e w1 ⟨rfl,F⟩;have p:K_ wr w1:=K_.trans (by repeat (first | (with_reducible exact K_.refl _) | (with_reducible assumption) | apply K_.drew)) F;dsimp only;refine h.out _ _ (fun _=>E.o w1 p) ?_;clear h K b;have b:=E.o w1 p;try simp only[Act.put,upA,upB,upC]
    refine ae 9 b ?_;refine ae 10 b ?_;refine mf 11 b ?_;refine mf 12 b ?_;refine mf 13 b ?_;refine mf 14 b ?_;refine mf 15 b ?_;refine mf 16 b ?_;refine mf 17 b ?_;refine af 18 (fun K h=>?_);go_simp
    refine h.out _ _ (fun B=>Ki rfl B) ?_;clear h K;try simp only[Act.put,upA,upB,upC]
    refine ay ?_;go_wp2
    go_roundw
    case rel=>exact⟨k+1,d,j,t,by omega,by go_num,by rw[T.o,Kh (fun B=>D B.1)];exact x.o.kept p⟩
    case measure=>simp[intOf];omega
  ·have c3:k=n.length:=by omega
   subst c3;rw[JB] at q;have x:=Kz q;clear q;go_wp2
   go_end0
   exact⟨rfl,_,_,_,x.o⟩
