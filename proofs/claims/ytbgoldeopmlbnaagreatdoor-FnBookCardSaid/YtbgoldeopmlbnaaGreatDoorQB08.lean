/- Used by the law. -/
import Derived.Lib.ConvBytes
import Derived.Laws.IdiomStrings
import Derived.Test.YtbgoldeopmlbnaaGreatDoorQB03
set_option maxRecDepth 100000
set_option maxHeartbeats 16000000
namespace Go.Proofs.YtbgoldeopmlbnaaGreatDoor
open Go.RowKit Go.PlainAid G
set_option linter.unusedVariables false
def secR (t : ByteArray) : Bool:=decide (1 <= t.size /\ t.size <= 16)
theorem secR_yes {t : ByteArray} (h1 : 1 <= t.size) (h2 : t.size <= 16) : secR t = true:=decide_eq_true ⟨h1,h2⟩
theorem secR_no {t : ByteArray} (h : ¬ (1 <= t.size /\ t.size <= 16)) : secR t = false:=decide_eq_false h
theorem secR_iff {t : ByteArray} : secR t = true ↔ 1 <= t.size /\ t.size <= 16:=decide_eq_true_iff
theorem secretOk_any (t : ByteArray) (w : World) (ht : t.size <= maxLen) :
 Calls Tryz.prog 104 #[.string t] w fun e w' => e = .returned (.bool (secR t)) /\ w = w':=by
 unfold maxLen at ht
 by_cases h1 : 1 <= t.size
 · by_cases h2 : t.size <= 16
   · have HF:=qH (secR_yes h1 h2).symm
     go_enter Tryz.func104,Tryz.ntmps104
     go_wp2
     go_ret
     exact ⟨ret_bool (by rw [<- HF.out];simp;omega),rfl⟩
   · have HF:=qH (secR_no (t:=t) (by omega)).symm
     go_enter Tryz.func104,Tryz.ntmps104
     go_wp2
     go_ret
     exact ⟨ret_bool (by rw [<- HF.out];simp;omega),rfl⟩
 · have HF:=qH (secR_no (t:=t) (by omega)).symm
   have h0 : t.size = 0:=by omega
   go_enter Tryz.func104,Tryz.ntmps104
   go_wp2
   go_ret
   exact ⟨ret_bool HF.out,rfl⟩
theorem l04SecretOk_any (t : ByteArray) (w : World) (ht : t.size <= maxLen) :
 Calls Tryz.prog 88 #[.string t] w fun e w' => e = .returned (.bool (secR t)) /\ w = w':=by
 unfold maxLen at ht
 by_cases h1 : 1 <= t.size
 · by_cases h2 : t.size <= 16
   · have HF:=qH (secR_yes h1 h2).symm
     go_enter Tryz.func88,Tryz.ntmps88
     go_wp2
     go_ret
     exact ⟨ret_bool (by rw [<- HF.out];simp;omega),rfl⟩
   · have HF:=qH (secR_no (t:=t) (by omega)).symm
     go_enter Tryz.func88,Tryz.ntmps88
     go_wp2
     go_ret
     exact ⟨ret_bool (by rw [<- HF.out];simp;omega),rfl⟩
 · have HF:=qH (secR_no (t:=t) (by omega)).symm
   have h0 : t.size = 0:=by omega
   go_enter Tryz.func88,Tryz.ntmps88
   go_wp2
   go_ret
   exact ⟨ret_bool HF.out,rfl⟩
theorem l02IsOk_any (n low high : Int) (w : World) :
 Calls Tryz.prog 79 #[.int .i64 n,.int .i64 low,.int .i64 high] w fun e w' => e = .returned (.bool (decide (low <= n /\ n <= high))) /\ w = w':=by
 by_cases h1 : low <= n
 · by_cases h2 : n <= high
   · go_enter Tryz.func79,Tryz.ntmps79
     go_wp2_with fail
     go_ret
     exact ⟨ret_bool (by simp [h1,h2]),rfl⟩
   · go_enter Tryz.func79,Tryz.ntmps79
     go_wp2_with fail
     go_ret
     exact ⟨ret_bool (by simp [h2]),rfl⟩
 · go_enter Tryz.func79,Tryz.ntmps79
   go_wp2_with fail
   go_ret
   exact ⟨ret_bool (by simp;omega),rfl⟩
end Go.Proofs.YtbgoldeopmlbnaaGreatDoor
namespace Go.Proofs.YtbgoldeopmlbnaaGreatDoor
open Go.RowKit Go.PlainAid G MGF IRow
set_option linter.unusedVariables false
theorem flat_setX {α : Type} (E : Enc α) (d : α) (ps : List α) (i j : Nat) (v : Value) (p' : α) (hi : i < ps.length) (hj : j < E.k) (hc : (E.cells (ps.getD i d)).set j v = E.cells p') : (E.flat ps).set (i * E.k + j) v = E.flat (ps.set i p'):=by
 induction ps generalizing i with
 | nil => exact absurd hi (Nat.not_lt_zero _)
 | cons p ps ih =>
  cases i with
  | zero =>
   rw [List.getD_cons_zero] at hc
   simp only [Enc.flat,Nat.zero_mul,Nat.zero_add,List.set_cons_zero]
   rw [List.set_append_left _ _ (by rw [E.len];exact hj),hc]
  | succ i =>
   rw [List.getD_cons_succ] at hc
   have:=ih i (by simpa using hi) hc
   simp only [Enc.flat,List.set_cons_succ]
   rw [List.set_append_right _ _ (by rw [E.len,Nat.succ_mul];omega),E.len,<- this]
   congr 2
   rw [Nat.succ_mul];omega
structure BoxC (w : World) (h : Nat) (cs : List Value) : Prop where
 lt : h < w.heap.size
 cell : ∀ j v,cs[j]? = some v -> w.cell? ⟨h,j,none⟩ = some v
 free : ∀ j,w.frozen? ⟨h,j,none⟩ = false
theorem BoxC.made (w : World) (cs : Array Value) (e : TypeId) : BoxC (w.alloc (.cells cs e)) w.heap.size cs.toList:=by
 have hh : (w.alloc (.cells cs e)).heap[w.heap.size]? = some (.cells cs e (0,0)):=by show (w.heap.push _)[w.heap.size]? = _;simp
 refine ⟨by rw [World.size_alloc];omega,fun j v hv => ?_,fun j => ?_⟩
 · rw [cell_of_row _ _ j _ _ _ hh]
   simpa using hv
 · unfold World.frozen?
   simp only [hh]
   simp
theorem BoxC.below {w w' : World} {h : Nat} {cs : List Value} (b : BoxC w h cs) (hb : Below w.heap.size w w') : BoxC w' h cs :=
 ⟨Nat.lt_of_lt_of_le b.lt hb.size,fun j v hv => (hb.cell (p:=⟨h,j,none⟩) b.lt).trans (b.cell j v hv),fun j => (hb.frozen (p:=⟨h,j,none⟩) b.lt).trans (b.free j)⟩
theorem BoxC.alloc {w : World} {h : Nat} {cs : List Value} (b : BoxC w h cs) (o : Obj) : BoxC (w.alloc o) h cs:=b.below ((Below.refl _ _).alloc (Nat.le_refl _) _)
theorem BoxC.drew {w : World} {h : Nat} {cs : List Value} (b : BoxC w h cs) : BoxC w.drew h cs:=⟨b.lt,b.cell,b.free⟩
theorem BoxC.set {w : World} {h : Nat} {cs : List Value} (b : BoxC w h cs) {j : Nat} (hj : j < cs.length) (u : Value) : BoxC (w.setCell ⟨h,j,none⟩ u) h (cs.set j u):=by
 refine ⟨by rw [World.size_setCell];exact b.lt,fun i v hv => ?_,fun i => by rw [World.frozen?_setCell];exact b.free i⟩
 by_cases hij : j = i
 · subst hij
   rw [List.getElem?_set_self hj] at hv
   cases hv
   exact World.cell?_setCell_same _ _ _ (b.cell j _ (List.getElem?_eq_getElem hj))
 · rw [List.getElem?_set_ne hij] at hv
   rw [World.cell?_setCell_other _ _ _ _ (by intro h2;simp_all)]
   exact b.cell i v hv
theorem BoxC.other {w : World} {h : Nat} {cs : List Value} (b : BoxC w h cs) (p : Addr) (u : Value) (hp : p.block ≠ h) : BoxC (w.setCell p u) h cs:=by
 refine ⟨by rw [World.size_setCell];exact b.lt,fun i v hv => ?_,fun i => by rw [World.frozen?_setCell];exact b.free i⟩
 rw [World.cell?_setCell_other _ _ _ _ (by intro h2;apply hp;rw [h2])]
 exact b.cell i v hv
theorem BoxC.grown {w w' : World} {h : Nat} {cs : List Value} {row : Option Nat} (b : BoxC w h cs) (hg : w.grownBy w' row) (hr : some h ≠ row) : BoxC w' h cs:=by
 have hblk:=hg.block h b.lt hr
 refine ⟨Nat.lt_of_lt_of_le b.lt hg.size,fun j v hv => (World.cell?_of_block (a:=⟨h,j,none⟩) hblk).trans (b.cell j v hv),fun j => ?_⟩
 have:=b.free j
 unfold World.frozen? at this ⊢
 dsimp only at this ⊢
 rw [hblk]
 exact this
theorem run_append_rows {α : Type} (E : Enc α) (d : α) {P : Program} {w : World} {o : Oper} {a : Act} (s x : Operand) (t : TypeId)
 (ho : o.op = .call { callee:=.builtin .append,args:=#[s,x],argTypes:=#[t,t] })
 (e : TypeId) (i : TypeInfo) (z : Value) (bytes : Nat) (ht : P.underlying t = some (.slice e)) (hi : P.info? e = some i) (hz : i.zero = some z) (hsize : i.size = E.k) (hby : i.bytes = bytes) (hzs : z.cells.size = E.k) (hk : 0 < E.k) (hbb : bytes <= 1024)
 (B : Nat) (v : Value) (n : Nat) (ps : List α) (hs : a.eval s = v) (hown : w.ownsRow B e E.k v n (E.flat ps)) (ao : Option Addr) (m c : Nat) (qs : List α) (hx : a.eval x = .slice ao m c) (hr : SR E d w ao m c qs) (hB : B <= w.heap.size) (hn : n <= 1048576) (hm : m <= 1048576) :
 ∃ v' w',(execOp a.eval o).run P w = .ok (.value v') w' /\ w'.ownsRow B e E.k v' (n + m) (E.flat (ps ++ qs)) /\ w.grownBy w' v.ownBlock:=by
 cases ao with
 | none =>
  have hc:=hr.nil rfl
  have hm0 : m = 0:=by have:=hr.le;omega
  subst hc hm0
  have hq : qs = []:=List.eq_nil_of_length_eq_zero hr.len
  subst hq
  refine ⟨v,w,?_,by simpa using hown,World.grownBy.refl _ _⟩
  have h1:=run_append_owned_none (P:=P) (w:=w) (base:=B) t o.type e i E.k ht hi v n (E.flat ps) hown
  unfold execOp
  simp only [ho,resolve,invoke,builtin,Sem.run_bind,Sem.run_pure,Result.andThen_ok,List.map_toArray,List.map_cons,List.map_nil,hs,hx,h1]
 | some ad =>
  obtain ⟨v',w',h1,h2,h3,_⟩:=run_append_own (P:=P) w B t o.type e i z E.k bytes ht hi hz hsize hby hzs hk v n (E.flat ps) hown ad m c (E.flat qs) (by rw [E.flat_length,hr.len]) (hr.news ad rfl) (E.flat_one qs) (by unfold maxLen;omega)
   (by have : (n + m) * bytes <= 2097152 * 1024:=Nat.mul_le_mul (by omega) hbb;omega) hB
  refine ⟨v',w',?_,by rw [E.flat_append];exact h2,h3⟩
  unfold execOp
  simp only [ho,resolve,invoke,builtin,Sem.run_bind,Sem.run_pure,Result.andThen_ok,List.map_toArray,List.map_cons,List.map_nil,hs,hx,h1]
structure Tm where
 no : Int
 lk : ByteArray
def tmD : Tm:=⟨0,ByteArray.empty⟩
def tmE : Enc Tm:=⟨2,fun e => [.int .i64 e.no,.string e.lk],fun _ => rfl,by intro x v hv;simp at hv;rcases hv with rfl | rfl <;> rfl⟩
abbrev TmR (w : World) (a : Option Addr) (n cap : Nat) (l : List Tm) : Prop:=SR tmE tmD w a n cap l
theorem TmR.at {w : World} {a : Option Addr} {n cap : Nat} {l : List Tm} (h : TmR w a n cap l) {i : Nat} (hi : i < n) : ∃ g o,a = some ⟨g,o,none⟩ /\ g < w.heap.size /\ w.cell? ⟨g,o + i * 2,none⟩ = some (.int .i64 (l.getD i tmD).no) /\ w.cell? ⟨g,o + i * 2 + 1,none⟩ = some (.string (l.getD i tmD).lk):=by
 obtain ⟨g,o,ha,hg,hc⟩:=h.cells (by omega)
 exact ⟨g,o,ha,hg,hc i hi 0 _ rfl,hc i hi 1 _ rfl⟩
theorem TmR.own {w : World} {base n cap : Nat} {a : Option Addr} {e : TypeId} {l : List Tm} (h : w.ownsRow base e tmE.k (.slice a n cap) n (tmE.flat l)) : TmR w a n cap l:=SR.own (by decide) h
theorem TmR.olen {w : World} {base n cap : Nat} {a : Option Addr} {e : TypeId} {l : List Tm} (h : w.ownsRow base e tmE.k (.slice a n cap) n (tmE.flat l)) : l.length = n:=by
 have:=h.1;rw [tmE.flat_length] at this;exact Nat.eq_of_mul_eq_mul_right (show 0 < tmE.k by decide) this
theorem infoTerm : (Tryz.prog.info? 30).map (fun i => (i.zero,i.size,i.bytes)) = some (some (.agg #[.int .i64 0,.string ByteArray.empty]),2,24):=by kernel_rfl
theorem TmR.set0 {w : World} {base g n cap : Nat} {e : TypeId} {ps : List Tm} (h : w.ownsRow base e tmE.k (.slice (some ⟨g,0,none⟩) n cap) n (tmE.flat ps)) {i : Nat} (hi : i < n) (v : Int) :
 (w.setCell ⟨g,i * 2,none⟩ (.int .i64 v)).ownsRow base e tmE.k (.slice (some ⟨g,0,none⟩) n cap) n (tmE.flat (ps.set i ⟨v,(ps.getD i tmD).lk⟩)) /\ w.grownBy (w.setCell ⟨g,i * 2,none⟩ (.int .i64 v)) (some g):=by
 have hl:=TmR.olen h
 obtain ⟨h1,g1⟩:=h.stored (i * 2) (.int .i64 v)
 have e1 : (tmE.flat ps).set (i * 2) (.int .i64 v) = tmE.flat (ps.set i ⟨v,(ps.getD i tmD).lk⟩):=flat_setX tmE tmD ps i 0 _ _ (by omega) (by decide) rfl
 rw [e1] at h1
 exact ⟨h1,g1⟩
theorem TmR.set1 {w : World} {base g n cap : Nat} {e : TypeId} {ps : List Tm} (h : w.ownsRow base e tmE.k (.slice (some ⟨g,0,none⟩) n cap) n (tmE.flat ps)) {i : Nat} (hi : i < n) (v : ByteArray) :
 (w.setCell ⟨g,i * 2 + 1,none⟩ (.string v)).ownsRow base e tmE.k (.slice (some ⟨g,0,none⟩) n cap) n (tmE.flat (ps.set i ⟨(ps.getD i tmD).no,v⟩)) /\ w.grownBy (w.setCell ⟨g,i * 2 + 1,none⟩ (.string v)) (some g):=by
 have hl:=TmR.olen h
 obtain ⟨h1,g1⟩:=h.stored (i * 2 + 1) (.string v)
 have e1 : (tmE.flat ps).set (i * 2 + 1) (.string v) = tmE.flat (ps.set i ⟨(ps.getD i tmD).no,v⟩):=flat_setX tmE tmD ps i 1 _ _ (by omega) (by decide) rfl
 rw [e1] at h1
 exact ⟨h1,g1⟩
theorem TmR.stored {w : World} {base g n cap : Nat} {e : TypeId} {ps : List Tm} (h : w.ownsRow base e tmE.k (.slice (some ⟨g,0,none⟩) n cap) n (tmE.flat ps)) {i : Nat} (hi : i < n) (q0 : Int) (q1 : ByteArray) :
 ((w.setCell ⟨g,i * 2,none⟩ (.int .i64 q0)).setCell ⟨g,i * 2 + 1,none⟩ (.string q1)).ownsRow base e tmE.k (.slice (some ⟨g,0,none⟩) n cap) n (tmE.flat (ps.set i ⟨q0,q1⟩)) /\ w.grownBy ((w.setCell ⟨g,i * 2,none⟩ (.int .i64 q0)).setCell ⟨g,i * 2 + 1,none⟩ (.string q1)) (some g):=by
 have hl:=TmR.olen h
 have gd : ∀ (p q : Tm),((ps.set i p).set i q) = ps.set i q:=fun p q => by rw [List.set_set]
 have ge : ∀ p : Tm,(ps.set i p).getD i tmD = p:=fun p => by simp [List.getD,show i < ps.length by omega]
 have h0:=TmR.set0 h hi q0
 have h1:=TmR.set1 h0.1 hi q1
 rw [gd,ge] at h1
 exact ⟨h1.1,(grown_trans h0.2 h1.2)⟩
end Go.Proofs.YtbgoldeopmlbnaaGreatDoor
