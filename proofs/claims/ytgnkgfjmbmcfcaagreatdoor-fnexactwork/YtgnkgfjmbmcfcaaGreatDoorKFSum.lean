import Derived.Test.YtgnkgfjmbmcfcaaGreatDoorKFSpec2
set_option maxRecDepth 100000
set_option maxHeartbeats 25600000
namespace Go.Proofs.YtgnkgfjmbmcfcaaGreatDoor
open Go.RowKit Go.Proofs.Tryz
theorem MS(w:Qy)(s:Qw)(d:s.size<=maxLen):
  Calls prog 202 #[.string s] w fun e w'=>e= .returned (.int .u64 (sumOf s.data.toList))/\K_ w w':=by
 unfold maxLen at d;obtain⟨j,C,f,g,a⟩:=AA w s;go_enter func202,ntmps202
 go_wp2
 clear g;go_loopw [3,9] (fun x i wr=>∃k:Nat,k<=s.size/\i= .int .i64 k/\x= .int .u64 ((s.data.toList.take k).foldl dN 14695981039346656037)/\wr= (w.alloc (.cells C 5 f)).drew) (fun _ i _=>s.size-(intOf i).toNat)
 case atStart=>exact⟨0,OW _,rfl,rfl,rfl⟩
 case round=>
  obtain⟨k,l,rfl,rfl,rfl⟩:=hrel;by_cases b:k<s.size
  ·have m:=a k b;have c:k<s.data.toList.length:=by simpa using b
   have h:Hid ((s.data.toList.take (k+1)).foldl dN 14695981039346656037=dN ((s.data.toList.take k).foldl dN 14695981039346656037) s[k]):=by
    have e:=rW s.data.toList k c;rw[List.getD_eq_getElem?_getD,OZ c,Ql] at e;exact e
   generalize (s.data.toList.take k).foldl dN 14695981039346656037=v at *;clear a;go_wp2
   go_roundw
   case rel=>exact⟨k+1,by omega,by go_num,by rw[h.o];rw[AB];rfl,by first | rfl | trivial⟩
   case measure=>simp[intOf];omega
  ·go_wp2
   go_ret
   have:k=s.data.toList.length:=by simp;omega
   subst this;rw[PE];exact⟨rfl,(ak _ _).drew⟩
