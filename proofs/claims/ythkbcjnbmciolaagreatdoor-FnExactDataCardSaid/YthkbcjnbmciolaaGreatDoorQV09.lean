/- Used by the law. -/
import Derived.Test.YthkbcjnbmciolaaGreatDoorQV08
set_option maxRecDepth 100000
set_option maxHeartbeats 16000000
namespace Go.Proofs.YthkbcjnbmciolaaGreatDoor
open Go.RowKit Go.PlainAid G
set_option linter.unusedVariables false
def dkV (r : ByteArray × ByteArray) : Value:=.agg #[.string r.1,.string r.2]
theorem toDisk_any (s t : ByteArray) (w : World) :
 Calls Tryz.prog 21 #[.agg #[.string s,.string t]] w fun e w' => e = .returned (dkV (s,t)) /\ Below w.heap.size w w':=by
 go_enter Tryz.func21,Tryz.ntmps21
 go_wp2_with fail
 exact bodyPost_ret (v:=.agg #[.string s,.string t]) (by simp [results,Tryz.results21,go_sem]) rfl ⟨rfl,by repeat' (first | exact Below.refl _ _ | refine Below.alloc ?_ (by first | exact Nat.le_refl _ | (simp;done) | (simp;omega)) _ | refine Below.setCell ?_ (by first | exact Nat.le_refl _ | (simp;done) | (simp;omega)) _)⟩
theorem eqDisk_same (s t : ByteArray) (w : World) :
 Calls Tryz.prog 30 #[.agg #[.string s,.string t],.agg #[.string s,.string t]] w fun e w' => e = .returned (.bool true) /\ Below w.heap.size w w':=by
 go_enter Tryz.func30,Tryz.ntmps30
 go_wp2_with fail
 go_ret
 exact ⟨rfl,((Below.refl _ _).alloc (Nat.le_refl _) _).alloc (by simp) _⟩
theorem specDiskRight_any (s t : ByteArray) (w : World) (h : s.size + t.size <= 9007199254740992) :
 Calls Tryz.prog 41 #[.agg #[.string s,.string t]] w fun e w' => e = .returned (.bool (decide (s.size + t.size <= 3000))) /\ Below w.heap.size w w':=by
 have HB : Hid (Below w.heap.size w (w.alloc (.cells #[.string s,.string t] 38))):=qH ((Below.refl _ _).alloc (Nat.le_refl _) _)
 by_cases h1 : s.size + t.size <= 3000
 · have h2 : (s.size : Int) + (t.size : Int) <= 3000:=by omega
   have hw : IntKind.i64.wrap ((s.size : Int) + (t.size : Int)) = (s.size : Int) + (t.size : Int):=by rw [IntWalk.i64_in _ (by omega)]
   go_enter Tryz.func41,Tryz.ntmps41
   go_wp2_with fail
   go_ret
   exact ⟨ret_bool (by simp;omega),HB.out⟩
 · have h2 : ¬ (s.size : Int) + (t.size : Int) <= 3000:=by omega
   have hw : IntKind.i64.wrap ((s.size : Int) + (t.size : Int)) = (s.size : Int) + (t.size : Int):=by rw [IntWalk.i64_in _ (by omega)]
   go_enter Tryz.func41,Tryz.ntmps41
   go_wp2_with fail
   go_ret
   exact ⟨ret_bool (by simp;try omega),HB.out⟩
end Go.Proofs.YthkbcjnbmciolaaGreatDoor
namespace Go.Proofs.YthkbcjnbmciolaaGreatDoor
open Go.RowKit Go.PlainAid G MGF IRow
set_option linter.unusedVariables false
theorem grown_below {B : Nat} {w x y : World} {h : Nat} (hb : Below B w x) (hg : x.grownBy y (some h)) (hB : B <= h) (hs : B <= x.heap.size) : Below B w y :=
 hb.grown hg hs (fun q hq => by obtain rfl : h = q:=Option.some.inj hq;exact hB)
theorem own_apartP {w w' : World} {base : Nat} {e : TypeId} {size : Nat} {v : Value} {n : Nat} {xs : List Value} {M : Nat} (h : w.ownsRow base e size v n xs) (hg : w.grownBy w' (some M)) (hne : ∀ g,v.ownBlock = some g -> g ≠ M) : w'.ownsRow base e size v n xs:=by
 refine h.kept hg ?_
 cases hv : v.ownBlock with
 | none => exact .inl rfl
 | some g => exact .inr (fun e => hne g hv (Option.some.inj e))
theorem own_far {w w' : World} {base : Nat} {e : TypeId} {size : Nat} {v : Value} {n : Nat} {xs : List Value} {M : Nat} (h : w.ownsRow base e size v n xs) (hg : w.grownBy w' (some M)) (hM : M < base) : w'.ownsRow base e size v n xs :=
 own_apartP h hg (fun g hg e => by have:=(h.lt g hg).1;omega)
theorem bkO_far {w w' : World} {base : Nat} {a1 a2 : Option Addr} {n1 a3 n2 a4 : Nat} {ts : List Tm} {is : List Im} {M : Nat} (h : BkO w base a1 n1 a3 a2 n2 a4 ts is) (hg : w.grownBy w' (some M)) (hM : M < base) : BkO w' base a1 n1 a3 a2 n2 a4 ts is:=⟨own_far h.t hg hM,own_far h.i hg hM⟩
theorem set_grown (x : World) (h j : Nat) (v : Value) : x.grownBy (x.setCell ⟨h,j,none⟩ v) (some h) :=
 ⟨rfl,rfl,rfl,by simp,fun k hk hne => Below.heap_setCell x ⟨h,j,none⟩ v k (fun e => hne (by rw [e]))⟩
theorem box_put6 {x : World} {h : Nat} {z0 z1 z2 z3 z4 z5 : Value} (k : BoxC x h [z0,z1,z2,z3,z4,z5]) (v0 v1 v2 v3 v4 v5 : Value) :
 BoxC ((((((x.setCell ⟨h,0,none⟩ v0).setCell ⟨h,1,none⟩ v1).setCell ⟨h,2,none⟩ v2).setCell ⟨h,3,none⟩ v3).setCell ⟨h,4,none⟩ v4).setCell ⟨h,5,none⟩ v5) h [v0,v1,v2,v3,v4,v5] ∧
 x.grownBy ((((((x.setCell ⟨h,0,none⟩ v0).setCell ⟨h,1,none⟩ v1).setCell ⟨h,2,none⟩ v2).setCell ⟨h,3,none⟩ v3).setCell ⟨h,4,none⟩ v4).setCell ⟨h,5,none⟩ v5) (some h) :=
 ⟨((((((k.set (j:=0) (by simp) v0).set (j:=1) (by simp) v1).set (j:=2) (by simp) v2).set (j:=3) (by simp) v3).set (j:=4) (by simp) v4).set (j:=5) (by simp) v5),
  grown_trans (grown_trans (grown_trans (grown_trans (grown_trans (set_grown x h 0 v0) (set_grown _ h 1 v1)) (set_grown _ h 2 v2)) (set_grown _ h 3 v3)) (set_grown _ h 4 v4)) (set_grown _ h 5 v5)⟩
theorem box_put7 {x : World} {h : Nat} {z0 z1 z2 z3 z4 z5 z6 : Value} (k : BoxC x h [z0,z1,z2,z3,z4,z5,z6]) (v0 v1 v2 v3 v4 v5 v6 : Value) :
 BoxC (((((((x.setCell ⟨h,0,none⟩ v0).setCell ⟨h,1,none⟩ v1).setCell ⟨h,2,none⟩ v2).setCell ⟨h,3,none⟩ v3).setCell ⟨h,4,none⟩ v4).setCell ⟨h,5,none⟩ v5).setCell ⟨h,6,none⟩ v6) h [v0,v1,v2,v3,v4,v5,v6] ∧
 x.grownBy (((((((x.setCell ⟨h,0,none⟩ v0).setCell ⟨h,1,none⟩ v1).setCell ⟨h,2,none⟩ v2).setCell ⟨h,3,none⟩ v3).setCell ⟨h,4,none⟩ v4).setCell ⟨h,5,none⟩ v5).setCell ⟨h,6,none⟩ v6) (some h) :=
 ⟨(((((((k.set (j:=0) (by simp) v0).set (j:=1) (by simp) v1).set (j:=2) (by simp) v2).set (j:=3) (by simp) v3).set (j:=4) (by simp) v4).set (j:=5) (by simp) v5).set (j:=6) (by simp) v6),
  grown_trans (grown_trans (grown_trans (grown_trans (grown_trans (grown_trans (set_grown x h 0 v0) (set_grown _ h 1 v1)) (set_grown _ h 2 v2)) (set_grown _ h 3 v3)) (set_grown _ h 4 v4)) (set_grown _ h 5 v5)) (set_grown _ h 6 v6)⟩
def putL (x : World) (h : Nat) : List (Nat × Value) -> World
 | [] => x
 | (j,v) :: r => putL (x.setCell ⟨h,j,none⟩ v) h r
def setL (cs : List Value) : List (Nat × Value) -> List Value
 | [] => cs
 | (j,v) :: r => setL (cs.set j v) r
theorem putL_grown : ∀ (x : World) (h : Nat) (l : List (Nat × Value)),x.grownBy (putL x h l) (some h)
 | x,h,[] => ⟨rfl,rfl,rfl,Nat.le_refl _,fun _ _ _ => rfl⟩
 | x,h,(j,v) :: r => grown_trans (set_grown x h j v) (putL_grown _ h r)
theorem box_putL : ∀ {cs : List Value} {x : World} {h : Nat},BoxC x h cs -> ∀ l : List (Nat × Value),(∀ p ∈ l,p.1 < cs.length) -> BoxC (putL x h l) h (setL cs l)
 | _,_,_,b,[],_ => b
 | _,_,_,b,(j,v) :: r,hl => box_putL (b.set (hl (j,v) (List.mem_cons_self ..)) v) r (fun p hp => by rw [List.length_set];exact hl p (List.mem_cons_of_mem _ hp))
end Go.Proofs.YthkbcjnbmciolaaGreatDoor
