/- Used by the law. -/
import Derived.Test.YtbgoldeopmlbnaaGreatDoorQB24
set_option maxRecDepth 100000
set_option maxHeartbeats 16000000
namespace Go.Proofs.YtbgoldeopmlbnaaGreatDoor
open Go.RowKit Go.PlainAid G MGet MGF IRow MNum MJoin
set_option linter.unusedVariables false
theorem sco {w : World} {h i j : Nat} {v : Value} (hne : j ≠ i) : (w.setCell ⟨h,j,none⟩ v).cell? ⟨h,i,none⟩ = w.cell? ⟨h,i,none⟩:=World.cell?_setCell_other _ _ _ _ (by simp [])
theorem below_kept {B : Nat} {a w w' : World} {b : Nat} (h : Below B a w) (hg : w.grownBy w' (some b)) (hB : B <= w.heap.size) (hb : B <= b) : Below B a w' :=
 h.grown hg hB (fun k hk => by cases hk;exact hb)
theorem txt_fits {u : ByteArray} {a : Nat} (hu : u.size <= 8000) : (txtS u a).1.size <= 8000:=by
 unfold txtS
 split
 · exact Nat.zero_le _
 · split
   · exact Nat.zero_le _
   · split
     · exact Nat.zero_le _
     · dsimp only
       rw [ByteArray.size_extract]
       omega
end Go.Proofs.YtbgoldeopmlbnaaGreatDoor
namespace Go.Proofs.YtbgoldeopmlbnaaGreatDoor
open Go.RowKit Go.PlainAid G MGF IRow MNum
set_option linter.unusedVariables false
theorem DrawnC.refl {w : World} {p cb co sl sc : Nat} {sa : Option Addr} (h : SrcC w p cb co sl sc sa) : DrawnC w w p cb co sl sc sa:=⟨h,World.grownBy.refl _ _⟩
theorem DrawnC.set {w u : World} {p cb co sl sc h i : Nat} {sa : Option Addr} {v : Value} (hD : DrawnC w u p cb co sl sc sa) (hp : p < w.heap.size) (hcb : 0 < sl -> cb < w.heap.size) (hh : w.heap.size <= h) : DrawnC w (u.setCell ⟨h,i,none⟩ v) p cb co sl sc sa :=
 ⟨hD.src.grown hp hcb (grown_set u h i v) (fun k hk => by cases hk;exact hh),grown_own hD.gr (grown_set u h i v) (fun g hg => by cases hg;exact hh)⟩
theorem cell_kept {w u : World} {b p i : Nat} (hg : w.grownBy u (some p)) (hb : b < w.heap.size) (hne : b ≠ p) : u.cell? ⟨b,i,none⟩ = w.cell? ⟨b,i,none⟩:=by
 rw [World.cell?_of_block (w:=w) (a:=⟨b,i,none⟩) (hg.block b hb (by intro h;injection h with h;exact hne h))]
theorem pick_c (p cb co sl sc : Nat) (sa : Option Addr) (w : World) (b : Nat) (k : Nat) (ts : List ByteArray) (hS : SrcC w p cb co sl sc sa) (hk : 0 < ts.length) (hk2 : ts.length <= 1000) (hb : b < w.heap.size) (hbp : b ≠ p) (hc : ∀ i (hi : i < ts.length),w.cell? ⟨b,i,none⟩ = some (.string ts[i])) :
 Calls Tryz.prog 43 #[.pointer (some ⟨p,0,none⟩),.slice (some ⟨b,0,none⟩) ts.length ts.length] w fun e w' => (∃ i,∃ hi : i < ts.length,e = .returned (.string ts[i])) /\ DrawnC w w' p cb co sl sc sa:=by
 go_enter Tryz.func43,Tryz.ntmps43
 go_wp2_with fail
 refine (n_c p cb co sl sc sa (ts.length : Int) w hS (by omega)).mono ?_
 rintro e w1 ⟨r,rfl,r0,r1,hS1,hg,hz⟩
 obtain ⟨i,rfl⟩ : ∃ i : Nat,r = i:=⟨r.toNat,by omega⟩
 have hi : i < ts.length:=by omega
 have hci : w1.cell? ⟨b,i,none⟩ = some (.string ts[i]):=by rw [cell_kept hg hb hbp];exact hc i hi
 have HD:=qH (⟨hS1,hg⟩ : DrawnC w w1 p cb co sl sc sa)
 clear hS1 hg hz r0 r1
 go_wp2_with fail
 go_ret
 exact ⟨⟨i,hi,rfl⟩,HD.out⟩
theorem spoil_c (p cb co sl sc : Nat) (sa : Option Addr) (s : ByteArray) (w : World) (hS : SrcC w p cb co sl sc sa) (hs : s.size <= 9000) :
 Calls Tryz.prog 66 #[.pointer (some ⟨p,0,none⟩),.string s] w fun e w' => ∃ u : ByteArray,e = .returned (.string u) /\ u.size <= s.size + 1 /\ DrawnC w w' p cb co sl sc sa:=by
 go_enter Tryz.func66,Tryz.ntmps66
 have hw1 : IntKind.i64.wrap ((s.size : Int) + 1) = (s.size : Int) + 1:=by rw [IntWalk.i64_in _ (by omega)]
 go_wp2_with fail
 refine (n_c p cb co sl sc sa ((s.size : Int) + 1) w hS (by omega)).mono ?_
 rintro e w1 ⟨k,rfl,k0,k1,hS1,hg,hz⟩
 have hk : k <= s.size:=by omega
 have HD1:=qH (⟨hS1,hg⟩ : DrawnC w w1 p cb co sl sc sa)
 clear hS1 hg hz k1 hw1
 go_wp2_with fail
 refine (n_c p cb co sl sc sa 17 _ HD1.out.src (by omega)).mono ?_
 rintro e w2 ⟨r,rfl,r0,r1,hS1,hg,hz⟩
 have hr : r <= 16:=by omega
 have HD2:=qH (HD1.out.trans ⟨hS1,hg⟩)
 clear hS1 hg hz r1
 obtain ⟨k,rfl⟩ : ∃ j : Nat,k = j:=⟨k.toNat,by omega⟩
 have hcv:=fun (y : Int) => conv_owned 22 9 5 Tryz.underlying22 Tryz.underlying5 Tryz.underlying9 w2.heap.size (.slice (some ⟨w2.heap.size,0,none⟩) 1 1) 1 [y] (World.ownsRow_lit w2 #[.int .u8 y] 1 (Nat.le_refl _) (by decide) rfl)
 have HD3:=fun (y : Int) => HD2.out.below ((Below.refl w2.heap.size w2).alloc (Nat.le_refl _) (.cells #[.int .u8 y] 5))
 have hcs:=fun (y : Int) => strOfNums_size [y]
 by_cases hkz : (k : Int) = s.size
 · have hkb : ((k : Int) == (s.size : Int)) = true:=by simp [hkz]
   go_wp2_with fail
   go_region
   go_wp2_with fail
   go_ret
   exact ⟨_,rfl,by simp only [ByteArray.size_append,hcs,List.length_cons,List.length_nil];omega,(HD3 _).below (Below.refl _ _).drew⟩
 · have hkb : ((k : Int) == (s.size : Int)) = false:=by simp [hkz]
   go_wp2_with fail
   refine (one_c p cb co sl sc sa 3 _ (HD3 _).src (by omega)).mono ?_
   rintro e w3 ⟨b,rfl,hD,hz⟩
   have HD4:=qH ((HD3 _).trans hD)
   clear hD hz
   cases b
   · go_wp2_with fail
     refine (one_c p cb co sl sc sa 2 _ HD4.out.src (by omega)).mono ?_
     rintro e w4 ⟨b,rfl,hD,hz⟩
     have HD5:=qH (HD4.out.trans hD)
     clear hD hz
     cases b
     · go_wp2_with fail
       go_region
       go_wp2_with fail
       go_ret
       exact ⟨_,rfl,by simp only [ByteArray.size_append,ByteArray.size_extract,hcs,List.length_cons,List.length_nil];omega,HD5.out.below (Below.refl _ _).drew⟩
     · go_wp2_with fail
       go_region
       go_wp2_with fail
       go_ret
       exact ⟨_,rfl,by simp only [ByteArray.size_append,ByteArray.size_extract];omega,HD5.out.below (Below.refl _ _).drew⟩
   · go_wp2_with fail
     go_region
     go_wp2_with fail
     go_ret
     exact ⟨_,rfl,by simp only [ByteArray.size_append,ByteArray.size_extract,hcs,List.length_cons,List.length_nil];omega,HD4.out.below (Below.refl _ _).drew⟩
end Go.Proofs.YtbgoldeopmlbnaaGreatDoor
