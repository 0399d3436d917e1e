import Derived.Shelf.SlIter.Nil
import Derived.Shelf.SortM.Plain
import Derived.Shelf.SortM.SortNone
import Derived.Test.YtjbipapbckajnaaGreatDoorProg
set_option maxRecDepth 100000
set_option maxHeartbeats 25600000
namespace Go.Proofs
open Go.Shelf
def Tryz.keys89_ren :Go.Shelf.Ren:=⟨fun | 7=>89 | 10=>135 | n=>n,fun | 23=>95 | 26=>9 | 3=>26 | 28=>110 | 0=>0 | 27=>109 | 33=>129 | 4=>4 | n=>n,fun | n=>n⟩
theorem Tryz.Le :Go.Proofs.SlLaysZ.n7 Tryz.prog Tryz.keys89_ren:={
 mixed:=by kernel_rfl
 f7:=⟨Tryz.f89.name,by decide,Tryz.func89.trans (congrArg some (by kernel_rfl))⟩
 f10:=⟨Tryz.f135.name,by decide,Tryz.func135.trans (congrArg some (by kernel_rfl))⟩
 t0:=Tryz.underlying0
 a0:=Tryz.isAgg0
 z0:=Tryz.sizeOf0
 v0:=Tryz.zeroValue0
 t4:=Tryz.underlying4
 a4:=Tryz.isAgg4
 z4:=Tryz.sizeOf4
 v4:=Tryz.zeroValue4
 t23:=Tryz.underlying95
 a23:=Tryz.isAgg95
 z23:=Tryz.sizeOf95
 v23:=Tryz.zeroValue95
 t26:=Tryz.underlying9
 a26:=Tryz.isAgg9
 z26:=Tryz.sizeOf9
 v26:=Tryz.zeroValue9
 t27:=Tryz.underlying109
 a27:=Tryz.isAgg109
 z27:=Tryz.sizeOf109
 v27:=Tryz.zeroValue109
 t28:=Tryz.underlying110
 a28:=Tryz.isAgg110
 z28:=Tryz.sizeOf110
 v28:=Tryz.zeroValue110
 t33:=Tryz.underlying129
 a33:=Tryz.isAgg129
 z33:=Tryz.sizeOf129
 v33:=Tryz.zeroValue129}
def Tryz.sorted50_ren :Go.Shelf.Ren:=⟨fun | 6=>50 | 8=>106 | 9=>107 | 11=>156 | 13=>158 | 12=>157 | 23=>187 | 24=>188 | 14=>179 | 15=>180 | 16=>181 | 17=>182 | 18=>183 | 19=>184 | 20=>136 | 21=>185 | 22=>186 | 25=>207 | 26=>208 | 27=>209 | 28=>210 | 29=>211 | 30=>176 | 31=>219 | n=>n,fun | 26=>9 | 28=>110 | 24=>26 | 0=>0 | 3=>3 | 37=>194 | 48=>251 | 50=>228 | 4=>4 | 40=>245 | 39=>244 | 45=>155 | 5=>5 | 9=>9 | 51=>272 | 55=>276 | 57=>282 | 58=>283 | 33=>129 | n=>n,fun | n=>n⟩
theorem Tryz.Ej :Go.Proofs.SlLaysZ.n6 Tryz.prog Tryz.sorted50_ren:={
 mixed:=by kernel_rfl
 f6:=⟨Tryz.f50.name,by decide,Tryz.func50.trans (congrArg some (by kernel_rfl))⟩
 f8:=⟨Tryz.f106.name,by decide,Tryz.func106.trans (congrArg some (by kernel_rfl))⟩
 f11:=⟨Tryz.f156.name,by decide,Tryz.func156.trans (congrArg some (by kernel_rfl))⟩
 t0:=Tryz.underlying0
 a0:=Tryz.isAgg0
 z0:=Tryz.sizeOf0
 v0:=Tryz.zeroValue0
 t24:=Tryz.underlying26
 a24:=Tryz.isAgg26
 z24:=Tryz.sizeOf26
 v24:=Tryz.zeroValue26
 t26:=Tryz.underlying9
 a26:=Tryz.isAgg9
 z26:=Tryz.sizeOf9
 v26:=Tryz.zeroValue9
 t28:=Tryz.underlying110
 a28:=Tryz.isAgg110
 z28:=Tryz.sizeOf110
 v28:=Tryz.zeroValue110
 i26:=by kernel_rfl}
def Tryz.sort107_ren :Go.Shelf.Ren:=⟨fun | 6=>107 | 8=>158 | 9=>157 | 19=>187 | 20=>188 | 21=>179 | 22=>180 | 23=>181 | 24=>182 | 25=>183 | 26=>184 | 27=>136 | 28=>185 | 29=>186 | 36=>207 | 31=>208 | 32=>209 | 37=>210 | 38=>211 | 39=>176 | 41=>219 | n=>n,fun | 27=>26 | 29=>9 | 3=>3 | 32=>194 | 26=>26 | 0=>0 | 44=>251 | 46=>228 | 4=>4 | 36=>245 | 35=>244 | 41=>155 | 5=>5 | 9=>9 | 53=>272 | 57=>276 | 63=>282 | 64=>283 | n=>n,fun | n=>n⟩
theorem Tryz.Gs :Go.Proofs.SlLaysM.n6 Tryz.prog Tryz.sort107_ren:={
 mixed:=by kernel_rfl
 f6:=⟨Tryz.f107.name,by decide,Tryz.func107.trans (congrArg some (by kernel_rfl))⟩
 f8:=Tryz.func158.trans (congrArg some (by kernel_rfl))
 f9:=⟨Tryz.f157.name,by decide,Tryz.func157.trans (congrArg some (by kernel_rfl))⟩
 f19:=Tryz.func187.trans (congrArg some (by kernel_rfl))
 f20:=Tryz.func188.trans (congrArg some (by kernel_rfl))
 f21:=⟨Tryz.f179.name,by decide,Tryz.func179.trans (congrArg some (by kernel_rfl))⟩
 f22:=⟨Tryz.f180.name,by decide,Tryz.func180.trans (congrArg some (by kernel_rfl))⟩
 f23:=⟨Tryz.f181.name,by decide,Tryz.func181.trans (congrArg some (by kernel_rfl))⟩
 f24:=⟨Tryz.f182.name,by decide,Tryz.func182.trans (congrArg some (by kernel_rfl))⟩
 f25:=⟨Tryz.f183.name,by decide,Tryz.func183.trans (congrArg some (by kernel_rfl))⟩
 f26:=⟨Tryz.f184.name,by decide,Tryz.func184.trans (congrArg some (by kernel_rfl))⟩
 f27:=⟨Tryz.f136.name,by decide,Tryz.func136.trans (congrArg some (by kernel_rfl))⟩
 f28:=⟨Tryz.f185.name,by decide,Tryz.func185.trans (congrArg some (by kernel_rfl))⟩
 f29:=⟨Tryz.f186.name,by decide,Tryz.func186.trans (congrArg some (by kernel_rfl))⟩
 f31:=Tryz.func208.trans (congrArg some (by kernel_rfl))
 f32:=Tryz.func209.trans (congrArg some (by kernel_rfl))
 f36:=⟨Tryz.f207.name,by decide,Tryz.func207.trans (congrArg some (by kernel_rfl))⟩
 f37:=⟨Tryz.f210.name,by decide,Tryz.func210.trans (congrArg some (by kernel_rfl))⟩
 f38:=⟨Tryz.f211.name,by decide,Tryz.func211.trans (congrArg some (by kernel_rfl))⟩
 f39:=⟨Tryz.f176.name,by decide,Tryz.func176.trans (congrArg some (by kernel_rfl))⟩
 f41:=⟨Tryz.f219.name,by decide,Tryz.func219.trans (congrArg some (by kernel_rfl))⟩
 t0:=Tryz.underlying0
 a0:=Tryz.isAgg0
 z0:=Tryz.sizeOf0
 v0:=Tryz.zeroValue0
 t3:=Tryz.underlying3
 a3:=Tryz.isAgg3
 z3:=Tryz.sizeOf3
 v3:=Tryz.zeroValue3
 t4:=Tryz.underlying4
 a4:=Tryz.isAgg4
 z4:=Tryz.sizeOf4
 v4:=Tryz.zeroValue4
 t5:=Tryz.underlying5
 a5:=Tryz.isAgg5
 z5:=Tryz.sizeOf5
 v5:=Tryz.zeroValue5
 t9:=Tryz.underlying9
 a9:=Tryz.isAgg9
 z9:=Tryz.sizeOf9
 v9:=Tryz.zeroValue9
 t26:=Tryz.underlying26
 a26:=Tryz.isAgg26
 z26:=Tryz.sizeOf26
 v26:=Tryz.zeroValue26
 t27:=Tryz.underlying26
 a27:=Tryz.isAgg26
 z27:=Tryz.sizeOf26
 v27:=Tryz.zeroValue26
 t29:=Tryz.underlying9
 a29:=Tryz.isAgg9
 z29:=Tryz.sizeOf9
 v29:=Tryz.zeroValue9
 t32:=Tryz.underlying194
 a32:=Tryz.isAgg194
 z32:=Tryz.sizeOf194
 v32:=Tryz.zeroValue194
 t35:=Tryz.underlying244
 a35:=Tryz.isAgg244
 z35:=Tryz.sizeOf244
 v35:=Tryz.zeroValue244
 t36:=Tryz.underlying245
 a36:=Tryz.isAgg245
 z36:=Tryz.sizeOf245
 v36:=Tryz.zeroValue245
 t41:=Tryz.underlying155
 a41:=Tryz.isAgg155
 z41:=Tryz.sizeOf155
 v41:=Tryz.zeroValue155
 t44:=Tryz.underlying251
 a44:=Tryz.isAgg251
 z44:=Tryz.sizeOf251
 v44:=Tryz.zeroValue251
 t46:=Tryz.underlying228
 a46:=Tryz.isAgg228
 z46:=Tryz.sizeOf228
 v46:=Tryz.zeroValue228
 t53:=Tryz.underlying272
 a53:=Tryz.isAgg272
 z53:=Tryz.sizeOf272
 v53:=Tryz.zeroValue272
 t57:=Tryz.underlying276
 a57:=Tryz.isAgg276
 z57:=Tryz.sizeOf276
 v57:=Tryz.zeroValue276
 t63:=Tryz.underlying282
 a63:=Tryz.isAgg282
 z63:=Tryz.sizeOf282
 v63:=Tryz.zeroValue282
 t64:=Tryz.underlying283
 a64:=Tryz.isAgg283
 z64:=Tryz.sizeOf283
 v64:=Tryz.zeroValue283}
def Tryz.keys102_ren :Go.Shelf.Ren:=⟨fun | 7=>102 | 10=>152 | n=>n,fun | 23=>102 | 26=>9 | 3=>166 | 28=>110 | 0=>0 | 27=>109 | 33=>129 | 4=>4 | n=>n,fun | n=>n⟩
theorem Tryz.Gm :Go.Proofs.SlLaysZ.n7 Tryz.prog Tryz.keys102_ren:={
 mixed:=by kernel_rfl
 f7:=⟨Tryz.f102.name,by decide,Tryz.func102.trans (congrArg some (by kernel_rfl))⟩
 f10:=⟨Tryz.f152.name,by decide,Tryz.func152.trans (congrArg some (by kernel_rfl))⟩
 t0:=Tryz.underlying0
 a0:=Tryz.isAgg0
 z0:=Tryz.sizeOf0
 v0:=Tryz.zeroValue0
 t4:=Tryz.underlying4
 a4:=Tryz.isAgg4
 z4:=Tryz.sizeOf4
 v4:=Tryz.zeroValue4
 t23:=Tryz.underlying102
 a23:=Tryz.isAgg102
 z23:=Tryz.sizeOf102
 v23:=Tryz.zeroValue102
 t26:=Tryz.underlying9
 a26:=Tryz.isAgg9
 z26:=Tryz.sizeOf9
 v26:=Tryz.zeroValue9
 t27:=Tryz.underlying109
 a27:=Tryz.isAgg109
 z27:=Tryz.sizeOf109
 v27:=Tryz.zeroValue109
 t28:=Tryz.underlying110
 a28:=Tryz.isAgg110
 z28:=Tryz.sizeOf110
 v28:=Tryz.zeroValue110
 t33:=Tryz.underlying129
 a33:=Tryz.isAgg129
 z33:=Tryz.sizeOf129
 v33:=Tryz.zeroValue129}
end Go.Proofs
namespace Go.Proofs
open Go.RowKit Go.Maps Go.Sort Go.Shelf
theorem Tryz.Gn(m:Nat):AnyZ.SortsIn Tryz.prog Tryz.sorted50_ren Fence.wide m:=
 ⟨fun c d a e W f h i=>callsIn_wide.2 (AnyM.slices_Sort_string Tryz.Gs c d a e W f h i),
  fun p a W=>callsIn_wide.2 (AnyM.slices_Sort_string_none Tryz.Gs p a W)⟩
theorem Tryz.Cg(a:Option Nat)(W:World):CallsIn Fence.wide 5 Tryz.prog 89 #[.map a] W fun e w'=>e= .returned (.func (.func 135) #[] #[.pointer (some ⟨W.heap.size,0,none⟩)])/\w'=W.alloc (.cells #[.map a] 95):=
 AnyZ.keys_in Tryz.Le Fence.wide 5 trivial rfl a W
theorem Tryz.mV{H:Type}(b f:Nat)(a:DataW H)(R:Value->Option (DataW H×List MemPlace))(w:World)(h:w.ownsMap Tryz.prog 9 R b f a)(i:Maps.size a<=maxLen)(j:Maps.size a*16<=140737488355328):
  CallsIn Fence.wide 5 Tryz.prog 50 #[.func (.func 135) #[] #[.pointer (some ⟨w.heap.size,0,none⟩)]] (w.alloc (.cells #[.map (some b)] 95)) fun e w'=>∃(v:Value) (c:List (List UInt8)),e= .returned v/\c.Perm (strKeys a)/\
   w'.ownsRow (w.alloc (.cells #[.map (some b)] 95)).heap.size 9 1 v c.length ((c.mergeSort (fun x y=>decide (x<=y))).map encStr)/\(v= .slice none 0 0↔c=[])/\Below (w.alloc (.cells #[.map (some b)] 95)).heap.size (w.alloc (.cells #[.map (some b)] 95)) w':=by
 have k:=h.lt;have l:SeqGives Fence.wide 2 Tryz.prog 135 #[.pointer (some ⟨w.heap.size,0,none⟩)] encStr (fun c=>c.Perm (strKeys a)) (Maps.size a) (w.alloc (.cells #[.map (some b)] 95)):=
  AnyZ.keys_gives (ρ :=Tryz.keys89_ren) {Tryz.Le with} Fence.wide _ trivial rfl (by omega) w.heap.size b f a _ (by simp) (by simp) (by
   obtain⟨m,n,p,q,r,s⟩:=h;exact⟨m,n,(Below.heap_alloc _ _ b k).trans p,q,r,s⟩)
 exact AnyZ.sorted_in Tryz.Ej Fence.wide 5 trivial trivial trivial trivial rfl (by omega) (Tryz.Gn _) (enters_of Tryz.func107 (by kernel_rfl) rfl) 135 #[.pointer (some ⟨w.heap.size,0,none⟩)] trivial (enters_of Tryz.func135 (by kernel_rfl) rfl) _ _ i j _ l
theorem Tryz.zV(a:Option Nat)(W:World):CallsIn Fence.wide 5 Tryz.prog 102 #[.map a] W fun e w'=>e= .returned (.func (.func 152) #[] #[.pointer (some ⟨W.heap.size,0,none⟩)])/\w'=W.alloc (.cells #[.map a] 102):=
 AnyZ.keys_in Tryz.Gm Fence.wide 5 trivial rfl a W
theorem Tryz.lS{H:Type}(b f:Nat)(a:DataW H)(R:Value->Option (DataW H×List MemPlace))(w:World)(h:w.ownsMap Tryz.prog 9 R b f a)(i:Maps.size a<=maxLen)(j:Maps.size a*16<=140737488355328):
  CallsIn Fence.wide 5 Tryz.prog 50 #[.func (.func 152) #[] #[.pointer (some ⟨w.heap.size,0,none⟩)]] (w.alloc (.cells #[.map (some b)] 102)) fun e w'=>∃(v:Value) (c:List (List UInt8)),e= .returned v/\c.Perm (strKeys a)/\
   w'.ownsRow (w.alloc (.cells #[.map (some b)] 102)).heap.size 9 1 v c.length ((c.mergeSort (fun x y=>decide (x<=y))).map encStr)/\(v= .slice none 0 0↔c=[])/\Below (w.alloc (.cells #[.map (some b)] 102)).heap.size (w.alloc (.cells #[.map (some b)] 102)) w':=by
 have k:=h.lt;have l:SeqGives Fence.wide 2 Tryz.prog 152 #[.pointer (some ⟨w.heap.size,0,none⟩)] encStr (fun c=>c.Perm (strKeys a)) (Maps.size a) (w.alloc (.cells #[.map (some b)] 102)):=
  AnyZ.keys_gives (ρ :=Tryz.keys102_ren) {Tryz.Gm with} Fence.wide _ trivial rfl (by omega) w.heap.size b f a _ (by simp) (by simp) (by
   obtain⟨m,n,p,q,r,s⟩:=h;exact⟨m,n,(Below.heap_alloc _ _ b k).trans p,q,r,s⟩)
 exact AnyZ.sorted_in Tryz.Ej Fence.wide 5 trivial trivial trivial trivial rfl (by omega) (Tryz.Gn _) (enters_of Tryz.func107 (by kernel_rfl) rfl) 152 #[.pointer (some ⟨w.heap.size,0,none⟩)] trivial (enters_of Tryz.func152 (by kernel_rfl) rfl) _ _ i j _ l
end Go.Proofs
