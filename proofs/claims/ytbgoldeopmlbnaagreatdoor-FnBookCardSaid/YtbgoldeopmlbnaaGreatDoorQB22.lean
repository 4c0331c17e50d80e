/- Used by the law. -/
import Derived.Deep.AppendSrc
import Derived.Deep.Upon
import Derived.Lib.LazyBuf
import Derived.Laws.IdiomCopy
import Derived.Laws.AppendOwn
import Derived.Below
import Derived.Test.YtbgoldeopmlbnaaGreatDoorQB07
import Derived.Test.YtbgoldeopmlbnaaGreatDoorQB21
set_option maxRecDepth 100000
set_option maxHeartbeats 16000000
namespace Go.Proofs.YtbgoldeopmlbnaaGreatDoor
open Go.PlainAid MCrc
theorem bt_app_left {x y : ByteArray} {i : Nat} (h : i < x.size) : bt (x ++ y) i = bt x i:=by
 unfold bt
 rw [dif_pos (by rw [ByteArray.size_append];omega),dif_pos h,ByteArray.getElem_append_left h]
theorem bt_app_right {x y : ByteArray} {i : Nat} (h : x.size <= i) : bt (x ++ y) i = bt y (i - x.size):=by
 unfold bt
 by_cases hy : i - x.size < y.size
 · rw [dif_pos (by rw [ByteArray.size_append];omega),dif_pos hy,ByteArray.getElem_append_right h]
 · rw [dif_neg (by rw [ByteArray.size_append];omega),dif_neg hy]
theorem body_size {s : ByteArray} : (bodyS s).size = s.size - 4:=by unfold bodyS;rw [ByteArray.size_extract];omega
theorem tail_size {s : ByteArray} (h : 4 <= s.size) : (tailS s).size = 4:=by unfold tailS;rw [ByteArray.size_extract];omega
theorem body_of {t : ByteArray} : bodyS (t ++ crc4 t) = t:=by
 have hc:=crc4_size t
 refine ext_bt (by rw [body_size,ByteArray.size_append];omega) (fun i hi => ?_)
 rw [body_size,ByteArray.size_append] at hi
 unfold bodyS
 rw [bt_extract (by rw [ByteArray.size_append];omega) (by rw [ByteArray.size_append];omega),Nat.zero_add,bt_app_left (by omega)]
theorem tail_of {t : ByteArray} : tailS (t ++ crc4 t) = crc4 t:=by
 have hc:=crc4_size t
 refine ext_bt (by rw [tail_size (by rw [ByteArray.size_append];omega),hc]) (fun i hi => ?_)
 rw [tail_size (by rw [ByteArray.size_append];omega)] at hi
 unfold tailS
 rw [bt_extract (Nat.le_refl _) (by rw [ByteArray.size_append];omega),ByteArray.size_append,hc,bt_app_right (by omega)]
 congr 1
 omega
theorem open_seal {t : ByteArray} (h : t.size <= 7996) : openS (t ++ crc4 t) = (t,0,0):=by
 have hc:=crc4_size t
 rw [openS_read (by rw [ByteArray.size_append];omega) (by rw [ByteArray.size_append];omega),unsS_ok (by rw [tail_of,body_of]),body_of]
end Go.Proofs.YtbgoldeopmlbnaaGreatDoor
namespace Go.Proofs.YtbgoldeopmlbnaaGreatDoor
open Go.RowKit Go
def BS (w : World) (base : Nat) (a : Option Addr) (n c : Nat) (s : ByteArray) : Prop :=
 n = s.size /\ n <= c /\ ((a = none /\ n = 0) ∨ ∃ g o,a = some ⟨g,o,none⟩ /\ base <= g /\ g < w.heap.size /\ Lib.Bytes w g o s)
theorem bytes_none {s : ByteArray} (h : s.size = 0) : s = ⟨#[]⟩:=by
 apply ByteArray.ext
 apply Array.eq_empty_of_size_eq_zero
 exact h
theorem BS.conv {P : Program} {w : World} {base n c : Nat} {a : Option Addr} {s : ByteArray} (src dst e : TypeId) (hs : P.underlying src = some (.slice e)) (he : P.underlying e = some (.int .u8)) (hd : P.underlying dst = some .string) (h : BS w base a n c s) :
 (convert src dst (.slice a n c)).run P w = .ok (.string s) w:=by
 obtain ⟨rfl,h2,⟨rfl,h0⟩ | ⟨g,o,rfl,_,_,hc⟩⟩:=h
 · rw [run_convert_bytes_nil w src e hs he _ _ dst hd,bytes_none h0]
   rfl
 · exact Lib.run_convert_whole w src e dst hs he hd g o s hc c
theorem byteCells_append (s t : ByteArray) : byteCells (s ++ t) = byteCells s ++ byteCells t:=by
 unfold byteCells
 rw [<- List.map_append]
 congr 1
theorem byteCells_get (s : ByteArray) (j : Nat) (h : j < s.size) : (byteCells s)[j]? = some (.int .u8 (s[j].toNat : Int)):=by
 unfold byteCells
 rw [List.getElem?_map,Go.Proofs.byte_at s j h]
 rfl
theorem bytes_of_cells {w : World} {g o : Nat} {s : ByteArray} (h : ∀ j u,(byteCells s)[j]? = some u -> w.cell? ⟨g,o + j,none⟩ = some u) : Lib.Bytes w g o s :=
 fun i hi => h i _ (byteCells_get s i hi)
theorem cells_of_bytes {w : World} {g o : Nat} {s : ByteArray} (h : Lib.Bytes w g o s) (j : Nat) (u : Value) (hu : (byteCells s)[j]? = some u) : w.cell? ⟨g,o + j,none⟩ = some u:=by
 have hj : j < s.size:=by
  rcases Nat.lt_or_ge j s.size with h | h
  · exact h
  · rw [List.getElem?_eq_none (by rw [byteCells_length];exact h)] at hu;cases hu
 rw [h j hj,<- hu,byteCells_get s j hj]
theorem byteCells_one (s : ByteArray) : ∀ u ∈ byteCells s,u.oneCell' = true:=by
 intro u hu
 obtain ⟨_,_,rfl⟩:=List.mem_map.1 hu
 rfl
theorem BS.src {P : Program} {w : World} {base n c : Nat} {a : Option Addr} {s : ByteArray} {tx e' : TypeId} (hk : P.underlying tx = some (.slice e')) (h : BS w base a n c s) : Go.Src P 1 tx (.slice a n c) n (byteCells s) w:=by
 obtain ⟨rfl,h2,⟨rfl,h0⟩ | ⟨g,o,rfl,_,_,hc⟩⟩:=h
 · rw [h0,show byteCells s = [] from List.eq_nil_of_length_eq_zero (by rw [byteCells_length];exact h0)]
   exact Go.Src.ofNil w hk c
 · exact Go.Src.ofSlice w hk ⟨g,o,none⟩ s.size c (byteCells s) (by rw [byteCells_length,Nat.mul_one]) (fun j u hu => by rw [Addr.add_lit];exact cells_of_bytes hc j u hu) (byteCells_one s)
theorem bytes_made (w : World) (s t : ByteArray) (e : TypeId) (z : Array Value) : Lib.Bytes (w.alloc (.cells ((byteCells s ++ byteCells t).toArray ++ z) e)) w.heap.size 0 (s ++ t):=by
 refine bytes_of_cells fun j u hu => ?_
 rw [byteCells_append] at hu
 rw [Nat.zero_add]
 have hj : j < (byteCells s ++ byteCells t).length:=by
  rcases Nat.lt_or_ge j (byteCells s ++ byteCells t).length with h | h
  · exact h
  · rw [List.getElem?_eq_none h] at hu;cases hu
 have hh : (w.alloc (.cells ((byteCells s ++ byteCells t).toArray ++ z) e)).heap[w.heap.size]? = some (.cells ((byteCells s ++ byteCells t).toArray ++ z) e (0,0)):=by show (w.heap.push _)[w.heap.size]? = _;simp
 simp only [World.cell?,hh]
 rw [Array.getElem?_append_left (by simpa using hj),List.getElem?_toArray]
 exact hu
theorem app_wl {P : Program} {w w' : World} {ops : Array Oper} {rest : List Oper} {o : Oper} {a : Act} {Q : Exit -> Act -> World -> Prop} (hgd : o.guard = none) (s x : Operand) (t u ty : TypeId)
 (hop : o.op = .call { callee:=.builtin .append,args:=#[s,x],argTypes:=#[t,u] }) (hty : o.type = ty) (v1 v2 v' : Value) (hs : a.eval s = v1) (hx : a.eval x = v2)
 (he : (Builtin.append_ #[t,u] ty #[v1,v2]).run P w = .ok v' w') (h : wpList P ops Q rest (a.put o.dst v') w') : wpList P ops Q (o :: rest) a w:=by
 refine wpList_plain hgd fun K' hK' => ?_
 unfold Oper.wp execOp
 simp only [hop,hty,resolve,invoke,builtin,Sem.run_bind,Sem.run_pure,Result.andThen_ok,List.map_toArray,List.map_cons,List.map_nil,hs,hx,he]
 exact hK' _ _ h
end Go.Proofs.YtbgoldeopmlbnaaGreatDoor
namespace Go.Proofs.YtbgoldeopmlbnaaGreatDoor
open Go.RowKit Go Lib
set_option linter.unusedVariables false
structure BW (w : World) (base g n c : Nat) (s : ByteArray) : Prop where
 len : n = s.size
 low : base <= g
 lt : g < w.heap.size
 hc : n <= c
 bytes : Lib.Bytes w g 0 s
 room : ∀ j,n <= j -> j < c -> (w.cell? ⟨g,j,none⟩).isSome = true /\ w.frozen? ⟨g,j,none⟩ = false
theorem BW.bs {w : World} {base g n c : Nat} {s : ByteArray} (h : BW w base g n c s) : BS w base (some ⟨g,0,none⟩) n c s:=⟨h.len,h.hc,.inr ⟨g,0,rfl,h.low,h.lt,h.bytes⟩⟩
theorem BW.kept {w w' : World} {base g n c : Nat} {s : ByteArray} {row : Option Nat} (h : BW w base g n c s) (hg : w.grownBy w' row) (hr : some g ≠ row) : BW w' base g n c s:=by
 have hb:=hg.block g h.lt hr
 refine ⟨h.len,h.low,Nat.lt_of_lt_of_le h.lt hg.size,h.hc,fun i hi => (World.cell?_of_block (a:=⟨g,0 + i,none⟩) hb).trans (h.bytes i hi),fun j h1 h2 => ?_⟩
 obtain ⟨a,b⟩:=h.room j h1 h2
 exact ⟨by rw [World.cell?_of_block (a:=⟨g,j,none⟩) hb];exact a,by rw [World.frozen?_of_block (a:=⟨g,j,none⟩) hb];exact b⟩
theorem BW.made (w : World) (e : TypeId) (s : ByteArray) : BW (Lib.bytesWorld w e s) w.heap.size w.heap.size s.size (grownCap w s.size 0 e) s:=by
 have hsz2 : (Lib.bytesCells w e s).size = grownCap w s.size 0 e:=by
  have:=grownCap_ge w s.size 0 e
  simp [Lib.bytesCells]
  omega
 have hat:=Lib.bytesWorld_at_new w e s
 refine ⟨rfl,Nat.le_refl _,by rw [Lib.bytesWorld_size];omega,grownCap_ge _ _ _ _,fun j hj => ?_,fun j h1 h2 => ⟨?_,?_⟩⟩
 · rw [Nat.zero_add,Lib.bytesWorld_cell w e s j hj,List.getD_eq_getElem?_getD,Go.Proofs.byte_at s j hj]
   rfl
 · simp only [World.cell?,hat]
   rw [Array.getElem?_eq_getElem (by omega)]
   rfl
 · unfold World.frozen?
   simp only [hat]
   simp
   omega
theorem grown_setCells (g : Nat) : ∀ (vs : List Value) (o : Nat) (w : World),w.grownBy (w.setCells g o vs) (some g)
 | [],_,w => World.grownBy.refl _ _
 | v :: r,o,w => by
  have h1 : w.grownBy (w.setCell ⟨g,o,none⟩ v) (some g):=⟨rfl,rfl,rfl,by simp,fun k hk hne => Below.heap_setCell w ⟨g,o,none⟩ v k (fun e => hne (by rw [e]))⟩
  have h2:=grown_setCells g r (o + 1) (w.setCell ⟨g,o,none⟩ v)
  exact ⟨h2.os.trans h1.os,h2.tape.trans h1.tape,h2.output.trans h1.output,Nat.le_trans h1.size h2.size,fun k hk hne => (h2.block k (Nat.lt_of_lt_of_le hk h1.size) hne).trans (h1.block k hk hne)⟩
theorem BW.append {P : Program} {w : World} {base g n c : Nat} {s : ByteArray} (t : ByteArray) (tS tx ty e : TypeId) (i : TypeInfo) (ht : P.underlying tS = some (.slice e)) (hk : P.underlying tx = some .string) (hi : P.info? e = some i) (hz : i.zero = some (.int .u8 0)) (hsz : i.size = 1) (hby : i.bytes = 1)
 (h : BW w base g n c s) (hb : base <= w.heap.size) (hn : n + t.size <= 10000000) :
 ∃ g' c' w',(Builtin.append_ #[tS,tx] ty #[.slice (some ⟨g,0,none⟩) n c,.string t]).run P w = .ok (.slice (some ⟨g',0,none⟩) (n + t.size) c') w' /\ BW w' base g' (n + t.size) c' (s ++ t) /\ w.grownBy w' (some g):=by
 have hl:=h.len
 by_cases hroom : n + t.size <= c
 · have hc : ∀ j,j < (byteCells t).length -> (w.cell? ⟨g,0 + n * i.size + j,none⟩).isSome = true:=fun j hj => by
    rw [byteCells_length] at hj
    rw [hsz,Nat.mul_one,Nat.zero_add]
    exact (h.room (n + j) (by omega) (by omega)).1
   have hf : ∀ j,j < (byteCells t).length -> w.frozen? ⟨g,0 + n * i.size + j,none⟩ = false:=fun j hj => by
    rw [byteCells_length] at hj
    rw [hsz,Nat.mul_one,Nat.zero_add]
    exact (h.room (n + j) (by omega) (by omega)).2
   have hr:=run_append_room_src w tS tx ty e i ht hi g 0 n c (.string t) t.size (byteCells t) (by rw [hsz];exact Go.Src.ofString _ hk t) hroom hc hf
   have hz3 : 0 + n * i.size = n:=by rw [hsz];omega
   rw [hz3] at hr hc
   have hg:=grown_setCells g (byteCells t) n w
   refine ⟨g,c,_,hr,⟨by rw [ByteArray.size_append];omega,h.low,Nat.lt_of_lt_of_le h.lt hg.size,hroom,?_,fun j h1 h2 => ⟨?_,?_⟩⟩,hg⟩
   · refine bytes_of_cells fun j u hu => ?_
     rw [byteCells_append] at hu
     rw [Nat.zero_add]
     by_cases hj : j < s.size
     · rw [List.getElem?_append_left (by rw [byteCells_length];exact hj)] at hu
       rw [World.cell?_setCells_out _ _ _ _ _ (fun _ _ => .inl (by dsimp only;omega))]
       have:=cells_of_bytes h.bytes j u hu
       rwa [Nat.zero_add] at this
     · rw [List.getElem?_append_right (by rw [byteCells_length];omega),byteCells_length] at hu
       have hj2 : j - s.size < (byteCells t).length:=by
        rcases Nat.lt_or_ge (j - s.size) (byteCells t).length with h | h
        · exact h
        · rw [List.getElem?_eq_none h] at hu;cases hu
       have:=World.cell?_setCells_in g (byteCells t) n w hc (j - s.size) hj2
       rw [show n + (j - s.size) = j by omega] at this
       rw [this,<- hu,List.getElem?_eq_getElem hj2]
   · rw [World.cell?_setCells_out _ _ _ _ _ (fun _ _ => .inr (by rw [byteCells_length];dsimp only;omega))]
     exact (h.room j (by omega) h2).1
   · rw [World.frozen?_setCells]
     exact (h.room j (by omega) h2).2
 · have hold : (Builtin.firstCells i.size n (.slice (some ⟨g,0,none⟩) n c)).run P w.drew = .ok (byteCells s).toArray w.drew:=by
    rw [hsz]
    exact (BS.src (P:=P) (tx:=tS) ht h.bs).cellsD
   have hr:=run_append_grow_src w tS tx ty e i (.int .u8 0) ht hi hz (some ⟨g,0,none⟩) n c (byteCells s) hold (.string t) t.size (byteCells t) (by rw [hsz];exact Go.Src.ofString _ hk t) (by omega) (by omega) (by rw [hby];exact growslice_fits (by omega) (by omega))
   have hge:=grownCap_ge w (n + t.size) c e
   refine ⟨_,_,_,hr,⟨by rw [ByteArray.size_append];omega,hb,by simp,hge,bytes_made w.drew s t e _,fun j h1 h2 => ⟨?_,?_⟩⟩,?_⟩
   · have hh : (w.drew.alloc (.cells ((byteCells s ++ byteCells t).toArray ++ Builtin.zeroCells (Value.int .u8 0).cells (grownCap w (n + t.size) c e - (n + t.size))) e)).heap[w.heap.size]? = some (.cells ((byteCells s ++ byteCells t).toArray ++ Builtin.zeroCells (Value.int .u8 0).cells (grownCap w (n + t.size) c e - (n + t.size))) e (0,0)):=heap_alloc_new w.drew _
     simp only [World.cell?,hh]
     have hz1 : (Value.int IntKind.u8 0).cells.size = 1:=rfl
     have hs2 : ((byteCells s ++ byteCells t).toArray ++ Builtin.zeroCells (Value.int .u8 0).cells (grownCap w (n + t.size) c e - (n + t.size))).size = grownCap w (n + t.size) c e:=by
      simp only [Array.size_append,List.size_toArray,List.length_append,byteCells_length,size_zeroCells,hz1]
      omega
     rw [Array.getElem?_eq_getElem (by omega)]
     rfl
   · have hh : (w.drew.alloc (.cells ((byteCells s ++ byteCells t).toArray ++ Builtin.zeroCells (Value.int .u8 0).cells (grownCap w (n + t.size) c e - (n + t.size))) e)).heap[w.heap.size]? = some (.cells ((byteCells s ++ byteCells t).toArray ++ Builtin.zeroCells (Value.int .u8 0).cells (grownCap w (n + t.size) c e - (n + t.size))) e (0,0)):=heap_alloc_new w.drew _
     unfold World.frozen?
     simp only [hh]
     simp
   · exact ⟨rfl,rfl,rfl,by simp,fun k hk _ => Below.heap_alloc w.drew _ k hk⟩
theorem BW.conv {P : Program} {w : World} {base g n c : Nat} {s : ByteArray} (src dst e : TypeId) (hs : P.underlying src = some (.slice e)) (he : P.underlying e = some (.int .u8)) (hd : P.underlying dst = some .string) (h : BW w base g n c s) :
 (convert src dst (.slice (some ⟨g,0,none⟩) n c)).run P w = .ok (.string s) w:=BS.conv src dst e hs he hd h.bs
end Go.Proofs.YtbgoldeopmlbnaaGreatDoor
