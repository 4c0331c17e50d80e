/- Used by the law. -/
import Derived.Shelf.SlIter.Nil
import Derived.Shelf.SortM.Plain
import Derived.Shelf.SortM.SortNone
import Derived.Ground.GgzProg
import Derived.Ground.SlgmProg
import Derived.Test.YtbgoldeopmlbnaaGreatDoorProg
import Derived.Test.YtbgoldeopmlbnaaGreatDoorQB14
set_option maxRecDepth 100000
set_option maxHeartbeats 16000000
namespace Go.Proofs.YtbgoldeopmlbnaaGreatDoor
open Go.RowKit Go.PlainAid G MGF IRow
set_option linter.unusedVariables false
abbrev DdR (w : World) (a : Option Addr) (n cap : Nat) (l : List Dd) : Prop:=SR ddE ddD w a n cap l
theorem DdR.at {w : World} {a : Option Addr} {n cap : Nat} {l : List Dd} (h : DdR w a n cap l) {i : Nat} (hi : i < n) : ∃ g o,a = some ⟨g,o,none⟩ /\ g < w.heap.size /\ w.cell? ⟨g,o + i * 10,none⟩ = some (.int .i64 (l.getD i ddD).kd) /\ w.cell? ⟨g,o + i * 10 + 1,none⟩ = some (.int .i64 (l.getD i ddD).gn) /\ w.cell? ⟨g,o + i * 10 + 2,none⟩ = some (.int .i64 (l.getD i ddD).nd) /\ w.cell? ⟨g,o + i * 10 + 3,none⟩ = some (.int .i64 (l.getD i ddD).mn) /\ w.cell? ⟨g,o + i * 10 + 4,none⟩ = some (.int .i64 (l.getD i ddD).ck) /\ w.cell? ⟨g,o + i * 10 + 5,none⟩ = some (.int .i64 (l.getD i ddD).no) /\ w.cell? ⟨g,o + i * 10 + 6,none⟩ = some (.string (l.getD i ddD).lk) /\ w.cell? ⟨g,o + i * 10 + 7,none⟩ = some (.string (l.getD i ddD).nm) /\ w.cell? ⟨g,o + i * 10 + 8,none⟩ = some (.int .i64 (l.getD i ddD).tm) /\ w.cell? ⟨g,o + i * 10 + 9,none⟩ = some (.string (l.getD i ddD).bd):=by
 obtain ⟨g,o,ha,hg,hc⟩:=h.cells (by omega)
 exact ⟨g,o,ha,hg,hc i hi 0 _ rfl,hc i hi 1 _ rfl,hc i hi 2 _ rfl,hc i hi 3 _ rfl,hc i hi 4 _ rfl,hc i hi 5 _ rfl,hc i hi 6 _ rfl,hc i hi 7 _ rfl,hc i hi 8 _ rfl,hc i hi 9 _ rfl⟩
theorem DdR.own {w : World} {base n cap : Nat} {a : Option Addr} {e : TypeId} {l : List Dd} (h : w.ownsRow base e ddE.k (.slice a n cap) n (ddE.flat l)) : DdR w a n cap l:=SR.own (by decide) h
theorem DdR.olen {w : World} {base n cap : Nat} {a : Option Addr} {e : TypeId} {l : List Dd} (h : w.ownsRow base e ddE.k (.slice a n cap) n (ddE.flat l)) : l.length = n:=by
 have:=h.1;rw [ddE.flat_length] at this;exact Nat.eq_of_mul_eq_mul_right (show 0 < ddE.k by decide) this
theorem infoDeed : (Tryz.prog.info? 34).map (fun i => (i.zero,i.size,i.bytes)) = some (some (.agg #[.int .i64 0,.int .i64 0,.int .i64 0,.int .i64 0,.int .i64 0,.int .i64 0,.string ByteArray.empty,.string ByteArray.empty,.int .i64 0,.string ByteArray.empty]),10,104):=by kernel_rfl
end Go.Proofs.YtbgoldeopmlbnaaGreatDoor
namespace Go.Proofs.YtbgoldeopmlbnaaGreatDoor
open Go.Shelf
def LTryz.keys101_ren : Go.Shelf.Ren:=⟨fun | 7 => 101 | 10 => 114 | n => n,fun | 23 => 134 | 26 => 9 | 3 => 32 | 28 => 142 | 0 => 0 | 27 => 141 | 33 => 50 | 4 => 4 | n => n,fun | n => n⟩
theorem LTryz.keys101 : Go.Proofs.SlLaysZ.n7 Tryz.prog LTryz.keys101_ren:={
 mixed:=by kernel_rfl
 f7:=⟨Tryz.f101.name,by decide,Tryz.func101.trans (congrArg some (by kernel_rfl))⟩
 f10:=⟨Tryz.f114.name,by decide,Tryz.func114.trans (congrArg some (by kernel_rfl))⟩
 t0:=Tryz.underlying0
 a0:=Tryz.isAgg0
 z0:=Tryz.sizeOf0
 v0:=Tryz.zeroValue0
 t4:=Tryz.underlying4
 a4:=Tryz.isAgg4
 z4:=Tryz.sizeOf4
 v4:=Tryz.zeroValue4
 t23:=Tryz.underlying134
 a23:=Tryz.isAgg134
 z23:=Tryz.sizeOf134
 v23:=Tryz.zeroValue134
 t26:=Tryz.underlying9
 a26:=Tryz.isAgg9
 z26:=Tryz.sizeOf9
 v26:=Tryz.zeroValue9
 t27:=Tryz.underlying141
 a27:=Tryz.isAgg141
 z27:=Tryz.sizeOf141
 v27:=Tryz.zeroValue141
 t28:=Tryz.underlying142
 a28:=Tryz.isAgg142
 z28:=Tryz.sizeOf142
 v28:=Tryz.zeroValue142
 t33:=Tryz.underlying50
 a33:=Tryz.isAgg50
 z33:=Tryz.sizeOf50
 v33:=Tryz.zeroValue50 }
def LTryz.sorted100_ren : Go.Shelf.Ren:=⟨fun | 6 => 100 | 8 => 112 | 9 => 113 | 11 => 119 | 13 => 121 | 12 => 120 | 23 => 131 | 24 => 132 | 14 => 122 | 15 => 123 | 16 => 124 | 17 => 125 | 18 => 126 | 19 => 127 | 20 => 128 | 21 => 129 | 22 => 130 | 25 => 133 | 26 => 134 | 27 => 135 | 28 => 136 | 29 => 137 | 30 => 138 | 31 => 139 | n => n,fun | 26 => 9 | 28 => 142 | 24 => 61 | 0 => 0 | 3 => 3 | 37 => 94 | 48 => 133 | 50 => 90 | 4 => 4 | 40 => 181 | 39 => 180 | 45 => 186 | 5 => 5 | 9 => 9 | 51 => 190 | 55 => 194 | 57 => 196 | 58 => 197 | 33 => 50 | n => n,fun | n => n⟩
theorem LTryz.sorted100 : Go.Proofs.SlLaysZ.n6 Tryz.prog LTryz.sorted100_ren:={
 mixed:=by kernel_rfl
 f6:=⟨Tryz.f100.name,by decide,Tryz.func100.trans (congrArg some (by kernel_rfl))⟩
 f8:=⟨Tryz.f112.name,by decide,Tryz.func112.trans (congrArg some (by kernel_rfl))⟩
 f11:=⟨Tryz.f119.name,by decide,Tryz.func119.trans (congrArg some (by kernel_rfl))⟩
 t0:=Tryz.underlying0
 a0:=Tryz.isAgg0
 z0:=Tryz.sizeOf0
 v0:=Tryz.zeroValue0
 t24:=Tryz.underlying61
 a24:=Tryz.isAgg61
 z24:=Tryz.sizeOf61
 v24:=Tryz.zeroValue61
 t26:=Tryz.underlying9
 a26:=Tryz.isAgg9
 z26:=Tryz.sizeOf9
 v26:=Tryz.zeroValue9
 t28:=Tryz.underlying142
 a28:=Tryz.isAgg142
 z28:=Tryz.sizeOf142
 v28:=Tryz.zeroValue142
 i26:=by kernel_rfl }
def LTryz.sort113_ren : Go.Shelf.Ren:=⟨fun | 6 => 113 | 8 => 121 | 9 => 120 | 19 => 131 | 20 => 132 | 21 => 122 | 22 => 123 | 23 => 124 | 24 => 125 | 25 => 126 | 26 => 127 | 27 => 128 | 28 => 129 | 29 => 130 | 36 => 133 | 31 => 134 | 32 => 135 | 37 => 136 | 38 => 137 | 39 => 138 | 41 => 139 | n => n,fun | 27 => 61 | 29 => 9 | 3 => 3 | 32 => 94 | 26 => 61 | 0 => 0 | 44 => 133 | 46 => 90 | 4 => 4 | 36 => 181 | 35 => 180 | 41 => 186 | 5 => 5 | 9 => 9 | 53 => 190 | 57 => 194 | 63 => 196 | 64 => 197 | n => n,fun | n => n⟩
theorem LTryz.sort113 : Go.Proofs.SlLaysM.n6 Tryz.prog LTryz.sort113_ren:={
 mixed:=by kernel_rfl
 f6:=⟨Tryz.f113.name,by decide,Tryz.func113.trans (congrArg some (by kernel_rfl))⟩
 f8:=Tryz.func121.trans (congrArg some (by kernel_rfl))
 f9:=⟨Tryz.f120.name,by decide,Tryz.func120.trans (congrArg some (by kernel_rfl))⟩
 f19:=Tryz.func131.trans (congrArg some (by kernel_rfl))
 f20:=Tryz.func132.trans (congrArg some (by kernel_rfl))
 f21:=⟨Tryz.f122.name,by decide,Tryz.func122.trans (congrArg some (by kernel_rfl))⟩
 f22:=⟨Tryz.f123.name,by decide,Tryz.func123.trans (congrArg some (by kernel_rfl))⟩
 f23:=⟨Tryz.f124.name,by decide,Tryz.func124.trans (congrArg some (by kernel_rfl))⟩
 f24:=⟨Tryz.f125.name,by decide,Tryz.func125.trans (congrArg some (by kernel_rfl))⟩
 f25:=⟨Tryz.f126.name,by decide,Tryz.func126.trans (congrArg some (by kernel_rfl))⟩
 f26:=⟨Tryz.f127.name,by decide,Tryz.func127.trans (congrArg some (by kernel_rfl))⟩
 f27:=⟨Tryz.f128.name,by decide,Tryz.func128.trans (congrArg some (by kernel_rfl))⟩
 f28:=⟨Tryz.f129.name,by decide,Tryz.func129.trans (congrArg some (by kernel_rfl))⟩
 f29:=⟨Tryz.f130.name,by decide,Tryz.func130.trans (congrArg some (by kernel_rfl))⟩
 f31:=Tryz.func134.trans (congrArg some (by kernel_rfl))
 f32:=Tryz.func135.trans (congrArg some (by kernel_rfl))
 f36:=⟨Tryz.f133.name,by decide,Tryz.func133.trans (congrArg some (by kernel_rfl))⟩
 f37:=⟨Tryz.f136.name,by decide,Tryz.func136.trans (congrArg some (by kernel_rfl))⟩
 f38:=⟨Tryz.f137.name,by decide,Tryz.func137.trans (congrArg some (by kernel_rfl))⟩
 f39:=⟨Tryz.f138.name,by decide,Tryz.func138.trans (congrArg some (by kernel_rfl))⟩
 f41:=⟨Tryz.f139.name,by decide,Tryz.func139.trans (congrArg some (by kernel_rfl))⟩
 t0:=Tryz.underlying0
 a0:=Tryz.isAgg0
 z0:=Tryz.sizeOf0
 v0:=Tryz.zeroValue0
 t3:=Tryz.underlying3
 a3:=Tryz.isAgg3
 z3:=Tryz.sizeOf3
 v3:=Tryz.zeroValue3
 t4:=Tryz.underlying4
 a4:=Tryz.isAgg4
 z4:=Tryz.sizeOf4
 v4:=Tryz.zeroValue4
 t5:=Tryz.underlying5
 a5:=Tryz.isAgg5
 z5:=Tryz.sizeOf5
 v5:=Tryz.zeroValue5
 t9:=Tryz.underlying9
 a9:=Tryz.isAgg9
 z9:=Tryz.sizeOf9
 v9:=Tryz.zeroValue9
 t26:=Tryz.underlying61
 a26:=Tryz.isAgg61
 z26:=Tryz.sizeOf61
 v26:=Tryz.zeroValue61
 t27:=Tryz.underlying61
 a27:=Tryz.isAgg61
 z27:=Tryz.sizeOf61
 v27:=Tryz.zeroValue61
 t29:=Tryz.underlying9
 a29:=Tryz.isAgg9
 z29:=Tryz.sizeOf9
 v29:=Tryz.zeroValue9
 t32:=Tryz.underlying94
 a32:=Tryz.isAgg94
 z32:=Tryz.sizeOf94
 v32:=Tryz.zeroValue94
 t35:=Tryz.underlying180
 a35:=Tryz.isAgg180
 z35:=Tryz.sizeOf180
 v35:=Tryz.zeroValue180
 t36:=Tryz.underlying181
 a36:=Tryz.isAgg181
 z36:=Tryz.sizeOf181
 v36:=Tryz.zeroValue181
 t41:=Tryz.underlying186
 a41:=Tryz.isAgg186
 z41:=Tryz.sizeOf186
 v41:=Tryz.zeroValue186
 t44:=Tryz.underlying133
 a44:=Tryz.isAgg133
 z44:=Tryz.sizeOf133
 v44:=Tryz.zeroValue133
 t46:=Tryz.underlying90
 a46:=Tryz.isAgg90
 z46:=Tryz.sizeOf90
 v46:=Tryz.zeroValue90
 t53:=Tryz.underlying190
 a53:=Tryz.isAgg190
 z53:=Tryz.sizeOf190
 v53:=Tryz.zeroValue190
 t57:=Tryz.underlying194
 a57:=Tryz.isAgg194
 z57:=Tryz.sizeOf194
 v57:=Tryz.zeroValue194
 t63:=Tryz.underlying196
 a63:=Tryz.isAgg196
 z63:=Tryz.sizeOf196
 v63:=Tryz.zeroValue196
 t64:=Tryz.underlying197
 a64:=Tryz.isAgg197
 z64:=Tryz.sizeOf197
 v64:=Tryz.zeroValue197 }
end Go.Proofs.YtbgoldeopmlbnaaGreatDoor
namespace Go.Proofs.YtbgoldeopmlbnaaGreatDoor
open Go.RowKit Go.PlainAid G IRow
open Go.Maps Go.Sort Go.Shelf
set_option linter.unusedVariables false
theorem sortsK (m : Nat) : AnyZ.SortsIn Tryz.prog LTryz.sorted100_ren Fence.wide m :=
 ⟨fun blk off cap ss W hH hblk hsz => callsIn_wide.2 (AnyM.slices_Sort_string LTryz.sort113 blk off cap ss W hH hblk hsz),
  fun p cap W => callsIn_wide.2 (AnyM.slices_Sort_string_none LTryz.sort113 p cap W)⟩
theorem keysOf_any (mb : Option Nat) (W : World) : Calls Tryz.prog 101 #[.map mb] W fun e w' => e = .returned (.func (.func 114) #[] #[.pointer (some ⟨W.heap.size,0,none⟩)]) /\ w' = W.alloc (.cells #[.map mb] 134) :=
 (callsIn_wide (n:=5)).1 (AnyZ.keys_in LTryz.keys101 Fence.wide 5 trivial rfl mb W)
theorem flat_names : ∀ is : List Im,(is.map (fun y => y.nm.data.toList)).map Go.Proofs.encStr = stE.flat (is.map Im.nm)
 | [] => rfl
 | x :: r => by
  have ih:=flat_names r
  simp only [List.map_cons,ih]
  show _ = [Value.string x.nm] ++ stE.flat (r.map Im.nm)
  simp [encStr]
theorem sortedKeys_any {b nn : Nat} {is : List Im} (w : World) (hown : w.ownsMap Tryz.prog 9 imR b nn (mapI is)) (hr : RiseI is) (hl : is.length <= 1048576) :
 Calls Tryz.prog 100 #[.func (.func 114) #[] #[.pointer (some ⟨w.heap.size,0,none⟩)]] (w.alloc (.cells #[.map (some b)] 134)) fun e w' => ∃ v,e = .returned v /\ w'.ownsRow w.heap.size 9 stE.k v is.length (stE.flat (is.map Im.nm)) /\ Below w.heap.size w w':=by
 have hbl:=hown.lt
 have hsz : Maps.size (mapI is) = is.length:=size_mapI is
 have hmax : Maps.size (mapI is) <= maxLen:=by rw [hsz];unfold maxLen;omega
 have hbytes : Maps.size (mapI is) * 16 <= 140737488355328:=by rw [hsz];omega
 have hseq : SeqGives Fence.wide 2 Tryz.prog 114 #[.pointer (some ⟨w.heap.size,0,none⟩)] encStr (fun ss => ss.Perm (strKeys (mapI is))) (Maps.size (mapI is)) (w.alloc (.cells #[.map (some b)] 134)) :=
  AnyZ.keys_gives (ρ:=LTryz.keys101_ren) { LTryz.keys101 with } Fence.wide _ trivial rfl (by omega) w.heap.size b nn (mapI is) _ (by simp) (by simp) (by
   obtain ⟨es,clock,hb,Ft,hs,hD⟩:=hown
   exact ⟨es,clock,(Below.heap_alloc _ _ b hbl).trans hb,Ft,hs,hD⟩)
 refine Calls.mono ((callsIn_wide (n:=5)).1 (AnyZ.sorted_in LTryz.sorted100 Fence.wide 5 trivial trivial trivial trivial rfl (by omega) (sortsK _) (enters_of Tryz.func113 (by kernel_rfl) rfl) 114 #[.pointer (some ⟨w.heap.size,0,none⟩)] trivial (enters_of Tryz.func114 (by kernel_rfl) rfl) _ _ hmax hbytes _ hseq)) ?_
 rintro e w' ⟨v,ss,rfl,hS,hrow,hnil,hb⟩
 have hs:=sorted_mapI hr hS
 have hlen : ss.length = is.length:=by have:=hS.length_eq;rw [keys_mapI,List.length_map] at this;exact this
 refine ⟨v,rfl,?_,((Below.refl _ w).alloc (Nat.le_refl _) _).trans (hb.mono (by simp))⟩
 have h2 : (ss.mergeSort (fun x y => decide (x <= y))).map encStr = stE.flat (is.map Im.nm):=by
  rw [show ss.mergeSort (fun x y => decide (x <= y)) = _ from hs,flat_names]
 rw [h2,hlen] at hrow
 exact own_mono hrow (by simp)
end Go.Proofs.YtbgoldeopmlbnaaGreatDoor
