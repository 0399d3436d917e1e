import Derived.Test.YtgnkgfjmbmcfcaaGreatDoorKFSpec2
namespace Go.Proofs.YtgnkgfjmbmcfcaaGreatDoor
open Go.RowKit Go.Proofs.Tryz
def oD(w:Qy):Prop:=3<w.heap.size/\w.cell? ⟨3,15,none⟩=some (.int .u8 4)
theorem oD.kept{w w':Qy}(h:oD w)(k:K_ w w'):oD w':=⟨OV h.1 k.size,by rw[k.cell h.1];exact h.2⟩
theorem MJ(w:Qy)(h:oD w):Calls prog 258 #[.int .u64 16] w fun e w'=>e= .returned (.int .i64 4)/\w'=w:=by
 have b:IntKind.u64.wrap (bits BinOp.and IntKind.u64 16 (IntKind.u64.wrap (-16))*285870213051353865) / 288230376151711744=15:=by decide+kernel
 have c:=h.2;go_enter func258,ntmps258
 go_wp2_with (simp only[b])
 go_ret
 exact⟨rfl,rfl⟩
theorem Og(w:Qy)(h:oD w):Calls prog 256 #[.int .u64 16] w fun e w'=>e= .returned (.int .i64 4)/\w'=w:=by
 go_enter func256,ntmps256
 go_wp2_with fail
 refine (MJ _ h).mono ?_;rintro e b ⟨rfl,rfl⟩;go_wp2
 go_ret
 exact⟨rfl,rfl⟩
