/- Used by the law. -/
import Derived.Test.YtbgoldeopmlbnaaGreatDoorCards
import Derived.Test.YtbgoldeopmlbnaaGreatDoorTie
import Derived.OpenShut
import Derived.ShutString
import Derived.LaidHandle
import Derived.Deep.DeepHandedRow
import Derived.BigQuiet
import Derived.Deep.QuietTactic
import Derived.RegionTactic
import Derived.WalkSmall
import Derived.IntWalk
import Derived.Test.YtbgoldeopmlbnaaGreatDoorQB00
set_option maxRecDepth 100000
set_option maxHeartbeats 16000000
namespace Go.Proofs.YtbgoldeopmlbnaaGreatDoor
open Go.RowKit G
set_option linter.unusedVariables false
def ET (w : World) : Prop:=w.cell? ⟨0,0,none⟩ = some (.iface 163 (.agg #[.pointer (some ⟨1,102,none⟩)]))
theorem ET.lt {w : World} (h : ET w) : 0 < w.heap.size:=by
 rcases Nat.lt_or_ge 0 w.heap.size with h1 | h1
 · exact h1
 · unfold ET at h;simp [World.cell?,Array.getElem?_eq_none h1] at h
theorem ET.below {w w' : World} (h : ET w) (hb : Below w.heap.size w w') : ET w':=by
 unfold ET
 rw [hb.cell h.lt];exact h
theorem ET.alloc {w : World} (h : ET w) (o : Obj) : ET (w.alloc o):=h.below ((Below.refl _ _).alloc (Nat.le_refl _) _)
theorem codeOf_nil (w : World) :
 Calls Tryz.prog 69 #[.nilIface] w fun e w' => e = .returned (.int .i64 0) /\ w = w':=by
 go_enter Tryz.func69,Tryz.ntmps69
 go_wp2_with fail
 go_ret
 exact ⟨rfl,rfl⟩
theorem codeOf_bad (c : Int) (w : World) (hg : ET w) :
 Calls Tryz.prog 69 #[.iface 130 (.agg #[.int .i64 c])] w fun e w' => e = .returned (.int .i64 c) /\ Below w.heap.size w w':=by
 have h1:=hg.alloc (.cells #[.int .i64 0] 130)
 have H1:=qH h1;clear h1
 go_enter Tryz.func69,Tryz.ntmps69
 go_wp2_with fail
 refine (as_hit c ⟨w.heap.size,0,none⟩ (.int .i64 0) _ H1.out (by simp) (by simp)).mono ?_
 rintro e w1 ⟨rfl,rfl⟩
 go_wp2_with fail
 go_ret
 exact ⟨rfl,by repeat' (first | exact Below.refl _ _ | refine Below.alloc ?_ (by first | exact Nat.le_refl _ | (simp;done) | (simp;omega)) _ | refine Below.setCell ?_ (by first | exact Nat.le_refl _ | (simp;done) | (simp;omega)) _ | refine Below.drew ?_)⟩
end Go.Proofs.YtbgoldeopmlbnaaGreatDoor
namespace Go.Proofs.YtbgoldeopmlbnaaGreatDoor
open Go.ChangeShapes Go.WideShapes Go.RowKit
theorem door_own : ownKnob Tryz.prog.godebug = none:=by kernel_rfl
theorem door_et : Tryz.prog.globalNamed "errors.errorType" = some 0 := by kernel_rfl
theorem door_rt : (Tryz.prog.cutTypes.find? (·.1 == "internal/reflectlite.rtype")).map (·.2) = some 163 := by kernel_rfl
theorem door_oneRow : ((List.range 228).filter fun t => Tryz.prog.rowNamed t [101,114,114,111,114]) = [102]:=by kernel_rfl
theorem door_size : Tryz.prog.types.size = 228:=by kernel_rfl
def laidL : List (String × DataW Unit) := [("errors.errorType", Rows.laid_errors_errorType)]
theorem et_of_laid {W : World} (h : laidMetH Tryz.prog laidL W) : ET W:=by
 have h' : laidMet Tryz.prog [] W /\ handlesMet Tryz.prog laidL W:=h
 obtain ⟨name,u,ty,e1,e2,e3,e4,e5⟩:=h'.2 _ (List.mem_singleton.2 rfl)
 have en : name = [101,114,114,111,114]:=(Option.some.inj e1).symm
 subst en
 obtain rfl:=Option.some.inj (door_rt.symm.trans e2)
 have hm : ty ∈ (List.range 228).filter fun t => Tryz.prog.rowNamed t [101,114,114,111,114]:=List.mem_filter.2 ⟨List.mem_range.2 (by rw [<- door_size];exact e3),e4⟩
 rw [door_oneRow] at hm
 obtain rfl:=List.mem_singleton.1 hm
 have hh : typeHandle Tryz.prog 102 = .pointer (some ⟨1,102,none⟩):=by kernel_rfl
 rw [hh] at e5
 unfold ET
 simpa using World.var?_cell door_et e5 0
noncomputable def laidWorld (os : Os) : World :=
 { World.holding Tryz.prog os ⟨#[],#[],[]⟩ with heap:=(World.holding Tryz.prog os ⟨#[],#[],[]⟩).heap.modify 0 fun
  | .cells _ t frozen => .cells #[.iface 163 (.agg #[.pointer (some ⟨1,102,none⟩)])] t frozen
  | o => o }
theorem laidWorld_met (os : Os) (args : Array Value) : laidMetH Tryz.prog laidL ((laidWorld os).forCall (fun _ _ => 0) ⟨#[],args,[]⟩).memory :=
 laidMetH_of_parts (laidMet_nil _ _) (by kernel_rfl)
end Go.Proofs.YtbgoldeopmlbnaaGreatDoor
namespace Go.Proofs.YtbgoldeopmlbnaaGreatDoor
open Go.RowKit G
set_option linter.unusedVariables false
theorem setCell_setCell (w : World) (b o : Nat) (u v : Value) : (w.setCell ⟨b,o,none⟩ u).setCell ⟨b,o,none⟩ v = w.setCell ⟨b,o,none⟩ v:=by
 unfold World.setCell
 congr 1
 apply Array.ext_getElem?
 intro i
 simp only [Array.getElem?_modify]
 split
 · cases w.heap[i]? with
   | none => rfl
   | some x => cases x <;> simp [Array.setIfInBounds_setIfInBounds]
 · rfl
structure SrcC (w : World) (p cb co sl sc : Nat) (sa : Option Addr) : Prop where
 ex : ∃ (a mix size : Int),w.cell? ⟨p,0,none⟩ = some (.slice sa sl sc) /\ w.cell? ⟨p,1,none⟩ = some (.int .i64 a) /\ w.cell? ⟨p,2,none⟩ = some (.int .u64 mix) /\ w.cell? ⟨p,3,none⟩ = some (.int .i64 size) ∧
  w.frozen? ⟨p,0,none⟩ = false /\ w.frozen? ⟨p,1,none⟩ = false /\ w.frozen? ⟨p,2,none⟩ = false /\ w.frozen? ⟨p,3,none⟩ = false ∧
  0 <= a /\ a <= sl /\ sl <= 1048576 /\ 0 <= mix /\ mix <= 18446744073709551615 /\ 0 <= size /\ size <= 12 /\ (0 < sl -> sa = some ⟨cb,co,none⟩) /\ cb ≠ p ∧
  ∀ i,i < sl -> ∃ z : Int,0 <= z /\ z <= 255 /\ w.cell? ⟨cb,co + i,none⟩ = some (.int .u8 z)
def Src (w : World) (p : Nat) : Prop:=∃ cb co sl sc sa,SrcC w p cb co sl sc sa
theorem n_small (p : Nat) (most : Int) (w : World) (h : most <= 1) :
 Calls Tryz.prog 28 #[.pointer (some ⟨p,0,none⟩),.int .i64 most] w fun e w' => e = .returned (.int .i64 0) /\ w = w':=by
 go_enter Tryz.func28,Tryz.ntmps28
 go_wp2_with fail
 go_ret
 exact ⟨rfl,rfl⟩
structure NEnd (w w' : World) (p : Nat) (a' m' : Int) : Prop where
 c0 : w'.cell? ⟨p,0,none⟩ = w.cell? ⟨p,0,none⟩
 c1 : w'.cell? ⟨p,1,none⟩ = some (.int .i64 a')
 c2 : w'.cell? ⟨p,2,none⟩ = some (.int .u64 m')
 c3 : w'.cell? ⟨p,3,none⟩ = w.cell? ⟨p,3,none⟩
 fz : ∀ x,w'.frozen? x = w.frozen? x
 gr : w.grownBy w' (some p)
 sz : w'.heap.size = w.heap.size
theorem NEnd.drew {w w' : World} {p : Nat} {a m : Int} (h : NEnd w w' p a m) : NEnd w w'.drew p a m :=
 ⟨h.c0,h.c1,h.c2,h.c3,h.fz,⟨h.gr.os,h.gr.tape,h.gr.output,h.gr.size,h.gr.block⟩,h.sz⟩
theorem NEnd.drewN {w w' : World} {p : Nat} {a m : Int} (h : NEnd w w' p a m) (k : Nat) : NEnd w (w'.drewN k) p a m :=
 ⟨h.c0,h.c1,h.c2,h.c3,h.fz,⟨h.gr.os,h.gr.tape,h.gr.output,h.gr.size,h.gr.block⟩,h.sz⟩
theorem NEnd.start {w : World} {p : Nat} {a m : Int} (h1 : w.cell? ⟨p,1,none⟩ = some (.int .i64 a)) (h2 : w.cell? ⟨p,2,none⟩ = some (.int .u64 m)) : NEnd w w p a m :=
 ⟨rfl,h1,h2,rfl,fun _ => rfl,⟨rfl,rfl,rfl,Nat.le_refl _,fun _ _ _ => rfl⟩,rfl⟩
theorem grownBy_setCell (w : World) (a : Addr) (v : Value) : w.grownBy (w.setCell a v) (some a.block) :=
 ⟨rfl,rfl,rfl,by simp [World.setCell],fun k _ hk => Below.heap_setCell _ _ _ _ (by intro e;exact hk (by rw [e]))⟩
theorem grownBy_trans {a b c : World} {row : Option Nat} (h : a.grownBy b row) (k : b.grownBy c row) : a.grownBy c row :=
 ⟨k.os.trans h.os,k.tape.trans h.tape,k.output.trans h.output,Nat.le_trans h.size k.size,fun i hi hr => (k.block i (Nat.lt_of_lt_of_le hi h.size) hr).trans (h.block i hi hr)⟩
theorem NEnd.set1 {w w' : World} {p : Nat} {a m b : Int} (h : NEnd w w' p a m) : NEnd w (w'.setCell ⟨p,1,none⟩ (.int .i64 b)) p b m :=
 ⟨(World.cell?_setCell_other _ _ _ _ (by simp)).trans h.c0,World.cell?_setCell_same _ _ _ h.c1,(World.cell?_setCell_other _ _ _ _ (by simp)).trans h.c2,(World.cell?_setCell_other _ _ _ _ (by simp)).trans h.c3,
   fun x => (World.frozen?_setCell _ _ _ _).trans (h.fz x),grownBy_trans h.gr (grownBy_setCell _ _ _),by simpa [World.setCell] using h.sz⟩
theorem NEnd.set2 {w w' : World} {p : Nat} {a m b : Int} (h : NEnd w w' p a m) : NEnd w (w'.setCell ⟨p,2,none⟩ (.int .u64 b)) p a b :=
 ⟨(World.cell?_setCell_other _ _ _ _ (by simp)).trans h.c0,(World.cell?_setCell_other _ _ _ _ (by simp)).trans h.c1,World.cell?_setCell_same _ _ _ h.c2,(World.cell?_setCell_other _ _ _ _ (by simp)).trans h.c3,
   fun x => (World.frozen?_setCell _ _ _ _).trans (h.fz x),grownBy_trans h.gr (grownBy_setCell _ _ _),by simpa [World.setCell] using h.sz⟩
def NPost (w : World) (p : Nat) (most a0 sl : Int) (e : Ending) (w' : World) : Prop :=
 ∃ r a' m' : Int,e = .returned (.int .i64 r) /\ 0 <= r /\ r < most /\ a0 <= a' /\ (a' <= sl ∨ a' = a0) /\ 0 <= m' /\ m' <= 18446744073709551615 /\ NEnd w w' p a' m'
theorem mod_range {x most : Int} (h : 1 < most) (hm : most <= 9223372036854775807) (hx : 0 <= x) : 0 <= wrap64 (x.tmod most) /\ wrap64 (x.tmod most) < most:=by
 have h0:=Int.tmod_nonneg most hx
 have h1:=Int.tmod_lt_of_pos x (show 0 < most by omega)
 rw [IntWalk.wrap64_in _ ⟨by omega,by omega⟩]
 exact ⟨h0,h1⟩
theorem u64_range (x : Int) : 0 <= IntKind.u64.wrap x /\ IntKind.u64.wrap x <= 18446744073709551615:=by rw [IntKind.wrap_u64];omega
theorem xor64_range (x y : Int) : 0 <= bits .xor .u64 x y /\ bits .xor .u64 x y <= 18446744073709551615:=bounds_u64 (wf_bits _ _ _ _)
theorem n_t (p sl sc : Nat) (sa : Option Addr) (a mix most : Int) (w : World) (h : 1 < most) (hm : most <= 9223372036854775807)
 (c0 : w.cell? ⟨p,0,none⟩ = some (.slice sa sl sc)) (c1 : w.cell? ⟨p,1,none⟩ = some (.int .i64 a)) (c2 : w.cell? ⟨p,2,none⟩ = some (.int .u64 mix))
 (f1 : w.frozen? ⟨p,1,none⟩ = false) (f2 : w.frozen? ⟨p,2,none⟩ = false) (hm0 : 0 <= mix) (hm1 : mix <= 18446744073709551615) (hsl : sl <= 1048576)
 (ha : (sl : Int) <= a) :
 Calls Tryz.prog 28 #[.pointer (some ⟨p,0,none⟩),.int .i64 most] w (NPost w p most a sl):=by
 have hss : ∀ (W : World) (u v : Value),(W.setCell ⟨p,2,none⟩ u).setCell ⟨p,2,none⟩ v = W.setCell ⟨p,2,none⟩ v:=fun W u v => setCell_setCell W p 2 u v
 have HN:=qH (NEnd.start c1 c2)
 go_enter Tryz.func28,Tryz.ntmps28
 go_wp2_with fail
 go_quiet (fail)
 go_wp2_with fail
 go_region
 go_wp2_with fail
 go_region
 go_wp2_with fail
 go_region
 go_wp2_with fail
 go_ret
 exact ⟨_,_,_,rfl,(mod_range h hm (u64_range _).1).1,(mod_range h hm (u64_range _).1).2,Int.le_refl _,Or.inr rfl,(xor64_range _ _).1,(xor64_range _ _).2,((HN.out.drewN _).set2).drew.drew⟩
theorem n_u (p sl sc cb co k : Nat) (mix most z : Int) (w : World) (h : 1 < most) (hm : most <= 9223372036854775807)
 (c0 : w.cell? ⟨p,0,none⟩ = some (.slice (some ⟨cb,co,none⟩) sl sc)) (c1 : w.cell? ⟨p,1,none⟩ = some (.int .i64 k)) (c2 : w.cell? ⟨p,2,none⟩ = some (.int .u64 mix))
 (f1 : w.frozen? ⟨p,1,none⟩ = false) (f2 : w.frozen? ⟨p,2,none⟩ = false) (hm0 : 0 <= mix) (hm1 : mix <= 18446744073709551615) (hsl : sl <= 1048576)
 (ha : k < sl) (hcp : cb ≠ p) (hz0 : 0 <= z) (hz1 : z <= 255) (cz : w.cell? ⟨cb,co + k,none⟩ = some (.int .u8 z)) :
 Calls Tryz.prog 28 #[.pointer (some ⟨p,0,none⟩),.int .i64 most] w (NPost w p most k sl):=by
 have hss : ∀ (W : World) (u v : Value),(W.setCell ⟨p,2,none⟩ u).setCell ⟨p,2,none⟩ v = W.setCell ⟨p,2,none⟩ v:=fun W u v => setCell_setCell W p 2 u v
 have HN:=qH (NEnd.start c1 c2)
 go_enter Tryz.func28,Tryz.ntmps28
 go_wp2_with fail
 go_quiet (fail)
 go_wp2_with fail
 go_quiet (fail)
 go_wp2_with fail
 go_region
 go_wp2_with fail
 go_region
 go_wp2_with fail
 go_region
 go_wp2_with fail
 go_ret
 exact ⟨_,(k : Int) + 1,_,rfl,(mod_range h hm (u64_range _).1).1,(mod_range h hm (u64_range _).1).2,by omega,Or.inl (by omega),(xor64_range _ _).1,(xor64_range _ _).2,(((HN.out.drewN _).set1).set2).drew.drew.drew⟩
theorem n_c (p cb co sl sc : Nat) (sa : Option Addr) (most : Int) (w : World) (hS : SrcC w p cb co sl sc sa) (hm : most <= 9223372036854775807) :
 Calls Tryz.prog 28 #[.pointer (some ⟨p,0,none⟩),.int .i64 most] w fun e w' => ∃ r : Int,e = .returned (.int .i64 r) /\ 0 <= r /\ (r < most ∨ r = 0) /\ SrcC w' p cb co sl sc sa /\ w.grownBy w' (some p) /\ w'.heap.size = w.heap.size:=by
 by_cases h : 1 < most
 · obtain ⟨a,mix,size,c0,c1,c2,c3,f0,f1,f2,f3,a0,a1,hsl,m0,m1,s0,s1,hsa,hcp,hz⟩:=hS.ex
   have done : ∀ e w',NPost w p most a sl e w' -> ∃ r : Int,e = .returned (.int .i64 r) /\ 0 <= r /\ (r < most ∨ r = 0) /\ SrcC w' p cb co sl sc sa /\ w.grownBy w' (some p) /\ w'.heap.size = w.heap.size:=by
    rintro e w' ⟨r,a',m',he,r0,r1,ha0,ha1,hm0,hm1,hN⟩
    refine ⟨r,he,r0,Or.inl r1,⟨a',m',size,hN.c0.trans c0,hN.c1,hN.c2,hN.c3.trans c3,(hN.fz _).trans f0,(hN.fz _).trans f1,(hN.fz _).trans f2,(hN.fz _).trans f3,by omega,by omega,hsl,hm0,hm1,s0,s1,hsa,hcp,fun i hi => ?_⟩,hN.gr,hN.sz⟩
    obtain ⟨z,z0,z1,hc⟩:=hz i hi
    exact ⟨z,z0,z1,hN.gr.cell hc (by simp;exact hcp)⟩
   by_cases ha : a < sl
   · obtain ⟨k,rfl⟩:=Int.eq_ofNat_of_zero_le a0
     obtain rfl:=hsa (by omega)
     obtain ⟨z,z0,z1,hc⟩:=hz k (by omega)
     exact (n_u p sl sc cb co k mix most z w h hm c0 c1 c2 f1 f2 m0 m1 hsl (by omega) hcp z0 z1 hc).mono done
   · exact (n_t p sl sc sa a mix most w h hm c0 c1 c2 f1 f2 m0 m1 hsl (by omega)).mono done
 · refine (n_small p most w (by omega)).mono ?_
   rintro e w' ⟨rfl,rfl⟩
   exact ⟨0,rfl,by omega,Or.inr rfl,hS,⟨rfl,rfl,rfl,Nat.le_refl _,fun _ _ _ => rfl⟩,rfl⟩
end Go.Proofs.YtbgoldeopmlbnaaGreatDoor
namespace Go.Proofs.YtbgoldeopmlbnaaGreatDoor
open Go.RowKit G
set_option linter.unusedVariables false
theorem SrcC.lt {w : World} {p cb co sl sc : Nat} {sa : Option Addr} (h : SrcC w p cb co sl sc sa) : p < w.heap.size:=by
 obtain ⟨_,_,_,c0,_⟩:=h.ex
 exact World.block_lt_of_cell? w _ c0
theorem SrcC.kept {w w' : World} {p cb co sl sc : Nat} {sa : Option Addr} (h : SrcC w p cb co sl sc sa) (hb : w'.heap[p]? = w.heap[p]?) (hb' : 0 < sl -> w'.heap[cb]? = w.heap[cb]?) : SrcC w' p cb co sl sc sa:=by
 obtain ⟨a,mix,size,c0,c1,c2,c3,f0,f1,f2,f3,a0,a1,hsl,m0,m1,s0,s1,hsa,hcp,hz⟩:=h.ex
 have hc : ∀ o,w'.cell? ⟨p,o,none⟩ = w.cell? ⟨p,o,none⟩:=fun o => World.cell?_of_block hb
 have hf : ∀ o,w'.frozen? ⟨p,o,none⟩ = w.frozen? ⟨p,o,none⟩:=fun o => World.frozen?_of_block hb
 refine ⟨a,mix,size,(hc _).trans c0,(hc _).trans c1,(hc _).trans c2,(hc _).trans c3,(hf _).trans f0,(hf _).trans f1,(hf _).trans f2,(hf _).trans f3,a0,a1,hsl,m0,m1,s0,s1,hsa,hcp,fun i hi => ?_⟩
 obtain ⟨z,z0,z1,hz'⟩:=hz i hi
 exact ⟨z,z0,z1,(World.cell?_of_block (hb' (by omega))).trans hz'⟩
theorem SrcC.code {w : World} {p cb co sl sc : Nat} {sa : Option Addr} (h : SrcC w p cb co sl sc sa) (hs : 0 < sl) : cb < w.heap.size:=by
 obtain ⟨a,mix,size,c0,c1,c2,c3,f0,f1,f2,f3,a0,a1,hsl,m0,m1,s0,s1,hsa,hcp,hz⟩:=h.ex
 obtain ⟨z,z0,z1,hz'⟩:=hz 0 hs
 exact World.block_lt_of_cell? w _ hz'
theorem Src.kept {w w' : World} {p : Nat} (h : Src w p) (hb : ∀ k,k < w.heap.size -> w'.heap[k]? = w.heap[k]?) : Src w' p:=by
 obtain ⟨cb,co,sl,sc,sa,h⟩:=h
 exact ⟨cb,co,sl,sc,sa,h.kept (hb p h.lt) (fun hs => hb cb (h.code hs))⟩
theorem Src.drewN {w : World} {p : Nat} (h : Src w p) (n : Nat) : Src (w.drewN n) p:=h.kept fun _ _ => rfl
structure Drawn (w w' : World) (p : Nat) : Prop where
 src : Src w' p
 gr : w.grownBy w' (some p)
theorem grown_own {w wr w' : World} {p : Nat} {row : Option Nat} (h : w.grownBy wr (some p)) (k : wr.grownBy w' row) (hr : ∀ g,row = some g -> w.heap.size <= g) : w.grownBy w' (some p) :=
 ⟨k.os.trans h.os,k.tape.trans h.tape,k.output.trans h.output,Nat.le_trans h.size k.size,fun i hi hp => (k.block i (Nat.lt_of_lt_of_le hi h.size) (fun e => by have:=hr i e.symm;omega)).trans (h.block i hi hp)⟩
end Go.Proofs.YtbgoldeopmlbnaaGreatDoor
namespace Go.Proofs.YtbgoldeopmlbnaaGreatDoor
open Go.RowKit G
set_option linter.unusedVariables false
section
variable {P : Program} {w : World}
theorem append_one_g {ops : Array Oper} {rest : List Oper} {o : Oper} {a : Act} {Q : Exit -> Act -> World -> Prop} (hgd : o.guard = none) (s x : Operand) (t : TypeId)
 (ho : o.op = .call { callee:=.builtin .append,args:=#[s,x],argTypes:=#[t,t] })
 (e : TypeId) (i : TypeInfo) (z : Value) (bytes : Nat) (ht : P.underlying t = some (.slice e)) (hi : P.info? e = some i) (hz : i.zero = some z)
 (hsize : i.size = 1) (hby : i.bytes = bytes) (hzs : z.cells.size = 1)
 (B : Nat) (v : Value) (n : Nat) (xs : List Value) (hs : a.eval s = v) (hown : w.ownsRow B e 1 v n xs) (u : Value) (e' : TypeId) (hu : u.oneCell' = true)
 (hx : a.eval x = .slice (some ⟨w.heap.size,0,none⟩) 1 1) (hB : B <= w.heap.size)
 (h63 : n + 1 <= maxLen) (hbytes : (n + 1) * bytes <= 140737488355328)
 (h : ∀ v' w',w'.ownsRow B e 1 v' (n + 1) (xs ++ [u]) -> w.grownBy w' v.ownBlock -> wpList P ops Q rest (a.put o.dst v') w') : wpList P ops Q (o :: rest) a (w.alloc (.cells #[u] e')):=by
 refine wpList_append_own _ hgd s x t ho B e i z 1 bytes ht hi hz hsize hby hzs (by decide) v n xs hs (hown.alloc _) ⟨w.heap.size,0,none⟩ 1 1 [u] hx rfl ?_ ?_ h63 hbytes (by simp;omega) ?_
 · intro j y hj
   match j,hj with
   | 0,hj => simp at hj;subst hj;simp [Addr.add]
 · intro y hy;simp at hy;subst hy;exact hu
 · intro v' w' h1 h2 _
   exact h v' w' h1 (grownBy_trans (World.grownBy_alloc w _ _) h2)
end
end Go.Proofs.YtbgoldeopmlbnaaGreatDoor
namespace Go.Proofs.YtbgoldeopmlbnaaGreatDoor
open Go.RowKit G
set_option linter.unusedVariables false
def CodeAt (w : World) (ao : Option Addr) (len : Nat) : Prop:=∃ cb co : Nat,(0 < len -> ao = some ⟨cb,co,none⟩) /\ ∀ i,i < len -> ∃ z : Int,0 <= z /\ z <= 255 /\ w.cell? ⟨cb,co + i,none⟩ = some (.int .u8 z)
theorem CodeAt.below {w w' : World} {ao : Option Addr} {len : Nat} (h : CodeAt w ao len) (hb : Below w.heap.size w w') : CodeAt w' ao len:=by
 obtain ⟨cb,co,ha,hc⟩:=h
 refine ⟨cb,co,ha,fun i hi => ?_⟩
 obtain ⟨z,z0,z1,hz⟩:=hc i hi
 exact ⟨z,z0,z1,(hb.cell (World.block_lt_of_cell? w _ hz)).trans hz⟩
theorem source_any (ao : Option Addr) (len cap : Nat) (w : World) (hC : CodeAt w ao len) (hl : len <= 1048576) :
 Calls Tryz.prog 25 #[.slice ao len cap] w fun e w' => ∃ p : Nat,e = .returned (.pointer (some ⟨p,0,none⟩)) /\ w.heap.size <= p /\ Src w' p /\ Below w.heap.size w w':=by
 obtain ⟨cb,co,ha,hz⟩:=hC
 have HZ:=qH hz;clear hz
 have HA:=qH ha;clear ha
 have fin : ∀ (W : World) (m size : Int) (nd : Nat),0 <= m -> m <= 18446744073709551615 -> 0 <= size -> size <= 12 -> Src ((w.alloc (.cells #[.slice ao len cap,.int .i64 0,.int .u64 m,.int .i64 size] 92)).drewN nd) w.heap.size:=by
  intro W m size nd hm0 hm1 s0 s1
  refine Src.drewN ?_ nd
  by_cases h0 : 0 < len
  · have hlt : cb < w.heap.size:=by
     obtain ⟨z,_,_,hz⟩:=HZ.out 0 h0
     exact World.block_lt_of_cell? w _ hz
    refine ⟨cb,co,len,cap,ao,⟨0,m,size,by simp,by simp,by simp,by simp,by simp,by simp,by simp,by simp,by omega,by omega,hl,hm0,hm1,s0,s1,HA.out,by omega,fun i hi => ?_⟩⟩
    obtain ⟨z,z0,z1,hz⟩:=HZ.out i hi
    exact ⟨z,z0,z1,by rw [World.cell?_alloc_lt _ _ ⟨cb,co + i,none⟩ hlt];exact hz⟩
  · exact ⟨w.heap.size + 1,co,len,cap,ao,⟨0,m,size,by simp,by simp,by simp,by simp,by simp,by simp,by simp,by simp,by omega,by omega,hl,hm0,hm1,s0,s1,fun h => absurd h h0,by omega,fun i hi => absurd hi (by omega)⟩⟩
 have FIN:=qH fin;clear fin
 have hpush : ∀ (W : World) (n : Nat) (a : Addr) (v : Value),(W.drewN n).setCell a v = (W.setCell a v).drewN n:=fun _ _ _ _ => rfl
 go_enter Tryz.func25,Tryz.ntmps25
 go_wp2_with fail
 go_loopw [4] (fun i wr => ∃ (k : Nat) (m : Int) (nd : Nat),k <= len /\ i = .int .i64 k /\ 0 <= m /\ m <= 18446744073709551615 /\ wr = (w.alloc (.cells #[.slice ao len cap,.int .i64 0,.int .u64 m,.int .i64 0] 92)).drewN nd) (fun i _ => len - (intOf i).toNat)
 case atStart => exact ⟨0,88172645463325252,0,Nat.zero_le _,rfl,by omega,by omega,rfl⟩
 case round =>
  obtain ⟨k,m,nd,hk,rfl,hm0,hm1,rfl⟩:=hrel
  by_cases hlt : k < len
  · by_cases h64 : k < 64
    · have hao:=HA.out (by omega)
      obtain ⟨z,z0,z1,hz⟩:=HZ.out k hlt
      subst hao
      have hcb : cb < w.heap.size:=World.block_lt_of_cell? w _ hz
      go_wp2_with fail
      go_region
      go_wp2_with fail
      go_roundw
      case rel => exact ⟨k + 1,_,nd + 1,by omega,by go_num,(u64_range _).1,(u64_range _).2,rfl⟩
      case measure => simp [intOf];omega
    · by_cases h12 : 12 < (len : Int) / 20
      · go_wp2_with fail
        go_ret
        exact ⟨_,rfl,Nat.le_refl _,FIN.out w m 12 nd hm0 hm1 (by omega) (by omega),below_drewN ((Below.refl _ _).alloc (Nat.le_refl _) _) _⟩
      · go_wp2_with fail
        go_ret
        exact ⟨_,rfl,Nat.le_refl _,FIN.out w m _ nd hm0 hm1 (by omega) (by omega),below_drewN ((Below.refl _ _).alloc (Nat.le_refl _) _) _⟩
  · by_cases h12 : 12 < (len : Int) / 20
    · go_wp2_with fail
      go_ret
      exact ⟨_,rfl,Nat.le_refl _,FIN.out w m 12 nd hm0 hm1 (by omega) (by omega),below_drewN ((Below.refl _ _).alloc (Nat.le_refl _) _) _⟩
    · go_wp2_with fail
      go_ret
      exact ⟨_,rfl,Nat.le_refl _,FIN.out w m _ nd hm0 hm1 (by omega) (by omega),below_drewN ((Below.refl _ _).alloc (Nat.le_refl _) _) _⟩
end Go.Proofs.YtbgoldeopmlbnaaGreatDoor
namespace Go.Proofs.YtbgoldeopmlbnaaGreatDoor
open Go.RowKit G
set_option linter.unusedVariables false
theorem below_drawn {B p : Nat} {w w1 w2 : World} (h : Below B w w1) (hB : B <= w.heap.size) (hp : B <= p) (hD : Drawn w1 w2 p) : Below B w w2 :=
 h.grown hD.gr (Nat.le_trans hB h.size) (fun k hk => by injection hk with hk;omega)
end Go.Proofs.YtbgoldeopmlbnaaGreatDoor
