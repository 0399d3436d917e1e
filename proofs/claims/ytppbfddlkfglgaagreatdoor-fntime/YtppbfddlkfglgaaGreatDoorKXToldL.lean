import Derived.Test.YtppbfddlkfglgaaGreatDoorKCTold
import Derived.Test.YtppbfddlkfglgaaGreatDoorKXCirc
namespace Go.Proofs.YtppbfddlkfglgaaGreatDoor
open Go.RowKit Go.Proofs.Tryz
theorem Tryz.gT :(prog.info? 31).map (·.size)=some 5:=C9
theorem But.after{S c:Nat->Prop}{w w' d:QX}(h:But S w w')(k:But c w' d)(f:∀b,b<w.heap.size->¬S b->¬c b):But S w d:=
 ⟨k.os.trans h.os,k.tape.trans h.tape,k.output.trans h.output,Pz h.size k.size,λb a e=>(k.block b (Px a h.size) (f b a e)).trans (h.block b a e)⟩
theorem miss{w:QX}{b o a:Nat}{x v:QY}(h:w.cell? ⟨b,o,none⟩=some x)(d:o≠a):(w.setCell ⟨b,a,none⟩ v).cell? ⟨b,o,none⟩=some x:=by rw[Xk A7];exact h
structure iK (W2:QX)(ob:Nat)(w:QX)(code:Int)(rv:QY)(dZ cost:Int):Prop where
 but:But (λb=>b=ob) W2 w
 row:aH w ob 31 5
 c0:w.cell? ⟨ob,0,none⟩=some (.b code)
 c1:w.cell? ⟨ob,1,none⟩=some rv
 c2:w.cell? ⟨ob,2,none⟩=some J6
 c3:w.cell? ⟨ob,3,none⟩=some (.b dZ)
 c4:w.cell? ⟨ob,4,none⟩=some (.b cost)
section
variable {W2 w w':QX}{ob:Nat}{code dZ cost:Int}{rv:QY}
theorem iK.kept(h:iK W2 ob w code rv dZ cost)(k:K_ w w'):iK W2 ob w' code rv dZ cost:=
 ⟨h.but.trans (But.ak k),h.row.kept k,(k.cell h.row.lt).trans h.c0,(k.cell h.row.lt).trans h.c1,(k.cell h.row.lt).trans h.c2,(k.cell h.row.lt).trans h.c3,(k.cell h.row.lt).trans h.c4⟩
theorem iK.alike(h:iK W2 ob w code rv dZ cost){S:Nat->Prop}(k:But S w w')(c:∀b,S b->W2.heap.size<=b)(d:ob<W2.heap.size):iK W2 ob w' code rv dZ cost:=
 have a:¬S ob:=λe=>by have:=c _ e;omega
 ⟨h.but.after k (λb f _ e=>by have:=c _ e;omega),k.row h.row a,(k.cell h.row.lt a).trans h.c0,(k.cell h.row.lt a).trans h.c1,(k.cell h.row.lt a).trans h.c2,(k.cell h.row.lt a).trans h.c3,(k.cell h.row.lt a).trans h.c4⟩
theorem iK.set0(h:iK W2 ob w code rv dZ cost)(x:Int):iK W2 ob (w.setCell ⟨ob,0,none⟩ (.b x)) x rv dZ cost:=
 ⟨h.but.set rfl _,h.row.set _,bB h.row.row A7 _,miss h.c1 A8,miss h.c2 A8,miss h.c3 A8,miss h.c4 A8⟩
theorem iK.set1(h:iK W2 ob w code rv dZ cost)(x:QY):iK W2 ob (w.setCell ⟨ob,1,none⟩ x) code x dZ cost:=
 ⟨h.but.set rfl _,h.row.set _,miss h.c0 A8,bB h.row.row A7 _,miss h.c2 A8,miss h.c3 A8,miss h.c4 A8⟩
theorem iK.Po(h:iK W2 ob w code rv dZ cost)(x:Int):iK W2 ob (w.setCell ⟨ob,3,none⟩ (.b x)) code rv x cost:=
 ⟨h.but.set rfl _,h.row.set _,miss h.c0 A8,miss h.c1 A8,miss h.c2 A8,bB h.row.row A7 _,miss h.c4 A8⟩
theorem iK.Pq(h:iK W2 ob w code rv dZ cost)(x:Int):iK W2 ob (w.setCell ⟨ob,4,none⟩ (.b x)) code rv dZ x:=
 ⟨h.but.set rfl _,h.row.set _,miss h.c0 A8,miss h.c1 A8,miss h.c2 A8,miss h.c3 A8,bB h.row.row A7 _⟩
theorem iK.no{a:QW}{b rc:Nat}(h:iK W2 ob w code (.slice a b rc) dZ cost):nO w ob:=JU h.row λo c s e=>by
 match o,c,e with
 |0,_,e=>have:=h.c0;rw[e] at this;cases this
 |1,_,e=>have:=h.c1;rw[e] at this;cases this
 |2,_,e=>have:=h.c2;rw[e] at this;cases this
 |3,_,e=>have:=h.c3;rw[e] at this;cases this
 |4,_,e=>have:=h.c4;rw[e] at this;cases this
end
