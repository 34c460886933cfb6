/-
  A row of bytes of the call's own, or none: append onto it; two bytes of a number, appended.
-/
import Derived.Test.YtblmhhijgdkkoaaByt
import Derived.Test.YtblmhhijgdkkoaaFresh2
import Derived.Test.YtblmhhijgdkkoaaBx
import Derived.Test.YtblmhhijgdkkoaaInt
import Derived.Deep.RegionLaw
namespace Go.Proofs.Ytblmhhijgdkkoaa
open Go.RowKit Go.Maps

/-- The last byte of a number. -/
def lo8 (n : Int) : UInt8 := UInt8.ofNat (n % 256).toNat
theorem lo8_val (n : Int) : ((lo8 n).toNat : Int) = n % 256 := by
  have h0 : 0 ≤ n % 256 := Int.emod_nonneg _ (by decide)
  have h1 : n % 256 < 256 := Int.emod_lt_of_pos _ (by decide)
  have h2 : (lo8 n).toNat = (n % 256).toNat := by
    unfold lo8
    simp
    omega
  rw [h2]
  omega
/-- Two bytes of a number, the greater one first. -/
def b2 (n : Int) : List UInt8 := [lo8 (n / 256), lo8 n]
theorem cells_append (l l2 : List UInt8) : Lib.byteCells (l ++ l2) = Lib.byteCells l ++ Lib.byteCells l2 := by simp [Lib.byteCells]
theorem cells_length (l : List UInt8) : (Lib.byteCells l).length = l.length := by simp [Lib.byteCells]
theorem cells_one (n : Int) : Lib.byteCells [lo8 n] = [.int .u8 (n % 256)] := by simp [Lib.byteCells, lo8_val]
theorem cells_two (n : Int) : Lib.byteCells (b2 n) = [.int .u8 (n / 256 % 256), .int .u8 (n % 256)] := by simp [Lib.byteCells, b2, lo8_val]

/-- v is a row of the call's own that holds the bytes l, or there is none yet. -/
def Rw (w : World) (B : Nat) (v : Value) (l : List UInt8) : Prop :=
  (v = .slice none 0 0 ∧ l = []) ∨ Byt w B 5 v l.length (Lib.byteCells l)

theorem Rw.nil (w : World) (B : Nat) : Rw w B (.slice none 0 0) [] := .inl ⟨rfl, rfl⟩
theorem Rw.alloc {w : World} {B : Nat} {v : Value} {l : List UInt8} (h : Rw w B v l) (o : Obj) : Rw (w.alloc o) B v l := h.imp id fun h => h.alloc o
theorem Rw.drew {w : World} {B : Nat} {v : Value} {l : List UInt8} (h : Rw w B v l) : Rw w.drew B v l := h
theorem Rw.same {w w' : World} {B : Nat} {v : Value} {l : List UInt8} (h : Rw w B v l) (hw : ∀ g, g < w.heap.size → w'.heap[g]? = w.heap[g]?) : Rw w' B v l := h.imp id fun h => h.same hw
theorem Rw.lt {w : World} {B : Nat} {v : Value} {l : List UInt8} (h : Rw w B v l) : ∀ k, v.ownBlock = some k → B ≤ k ∧ k < w.heap.size := by
  rcases h with ⟨rfl, _⟩ | h
  · intro k hk
    simp [Value.ownBlock] at hk
  · exact h.lt
theorem Rw.low {w : World} {B B' : Nat} {v : Value} {l : List UInt8} (h : Rw w B v l) (hB : B' ≤ B) : Rw w B' v l := h.imp id fun h => by
  obtain ⟨hl, g, cap, cur, fz, h1, h2, rest⟩ := h
  exact ⟨hl, g, cap, cur, fz, h1, Nat.le_trans hB h2, rest⟩
/-- A box of another type is none of its cells. -/
theorem Rw.ne {w : World} {B b : Nat} {v : Value} {l : List UInt8} {cs : Array Value} {t : TypeId} {fz : Nat × Nat} (h : Rw w B v l) (hb : w.heap[b]? = some (.cells cs t fz)) (ht : t ≠ 5) : v.ownBlock ≠ some b := by
  rcases h with ⟨rfl, _⟩ | h
  · simp [Value.ownBlock]
  · intro he
    obtain ⟨c, fz', h2⟩ := h.kind b he
    rw [hb] at h2
    injection h2 with h2
    injection h2 with _ h3 _
    exact ht h3

/-- What a slice that was just built holds. -/
theorem src_built (w : World) (l2 : List UInt8) (cs : Array Value) (hc : cs.toList = Lib.byteCells l2) : Src Try.prog 1 26 (.slice (some ⟨w.heap.size, 0, none⟩) l2.length l2.length) l2.length (Lib.byteCells l2) (w.alloc (.cells cs 5)) := by
  refine Src.ofSlice _ Try.underlying26 ⟨w.heap.size, 0, none⟩ l2.length l2.length _ (by simp [cells_length]) (fun j u hj => ?_) (fun u hu => ?_)
  · rw [Addr.add_lit, Nat.zero_add]
    simp only [World.cell?, heap_alloc_new]
    rw [← hc] at hj
    simpa using hj
  · simp only [Lib.byteCells, List.mem_map] at hu
    obtain ⟨b, _, rfl⟩ := hu
    rfl

theorem src_built' (w : World) (b : Nat) (hb : w.heap.size = b) (l2 : List UInt8) (cs : Array Value) (hc : cs.toList = Lib.byteCells l2) : Src Try.prog 1 26 (.slice (some ⟨b, 0, none⟩) l2.length l2.length) l2.length (Lib.byteCells l2) (w.alloc (.cells cs 5)) := by
  subst hb
  exact src_built w l2 cs hc
theorem src_built_drew (w : World) (b : Nat) (hb : w.heap.size = b) (l2 : List UInt8) (cs : Array Value) (hc : cs.toList = Lib.byteCells l2) : Src Try.prog 1 26 (.slice (some ⟨b, 0, none⟩) l2.length l2.length) l2.length (Lib.byteCells l2) (w.alloc (.cells cs 5)).drew := by
  subst hb
  refine Src.ofSlice _ Try.underlying26 ⟨w.heap.size, 0, none⟩ l2.length l2.length _ (by simp [cells_length]) (fun j u hj => ?_) (fun u hu => ?_)
  · show (w.alloc (.cells cs 5)).cell? _ = _
    rw [Addr.add_lit, Nat.zero_add]
    simp only [World.cell?, heap_alloc_new]
    rw [← hc] at hj
    simpa using hj
  · simp only [Lib.byteCells, List.mem_map] at hu
    obtain ⟨b, _, rfl⟩ := hu
    rfl
theorem wrap8 (n : Int) : IntKind.u8.wrap n = n % 256 := by
  rw [IntKind.wrap_u8]
theorem src_str (w : World) (l : List UInt8) : Src Try.prog 1 9 (.string ⟨l.toArray⟩) l.length (Lib.byteCells l) w :=
  Src.ofString (P := Try.prog) w Try.underlying9 ⟨l.toArray⟩
/-- A box of another type, behind an append. -/
theorem Rw.box {w w' : World} {B b : Nat} {v : Value} {l : List UInt8} {cs : Array Value} {t : TypeId} {fz : Nat × Nat} (h : Rw w B v l) (hb : w.heap[b]? = some (.cells cs t fz)) (ht : t ≠ 5) (hg : w.grownBy w' v.ownBlock) : w'.heap[b]? = some (.cells cs t fz) :=
  (hg.block b (Array.getElem?_eq_some_iff.1 hb).1 (fun e => h.ne hb ht e.symm)).trans hb

theorem run_append_rw (w : World) (B : Nat) (tx ty : TypeId) (v : Value) (l : List UInt8) (hown : Rw w B v l) (x : Value) (l2 : List UInt8) (hs : Src Try.prog 1 tx x l2.length (Lib.byteCells l2) w) (hlim : l.length + l2.length ≤ 100000000) (hp : 0 < l2.length ∨ 0 < l.length) (hB : B ≤ w.heap.size) :
    ∃ v' w', (Builtin.append_ #[26, tx] ty #[v, x]).run Try.prog w = .ok v' w' ∧ Rw w' B v' (l ++ l2) ∧ w.grownBy w' v.ownBlock := by
  obtain ⟨i0, hi, hz0, hz1, hz2⟩ := info_parts (show (Try.prog.info? 5).map (fun i => (i.zero, i.size, i.bytes)) = some (some (.int .u8 0), 1, 1) by kernel_rfl)
  rcases hown with ⟨rfl, rfl⟩ | hown
  · have hm : 0 < l2.length := by
      rcases hp with h | h
      · exact h
      · simp at h
    have hr := run_append_grow_src (P := Try.prog) w 26 tx ty 5 i0 (.int .u8 0) Try.underlying26 hi hz0 none 0 0 [] (by simp [Builtin.firstCells]) x l2.length _ (by rw [hz1]; exact hs) (by omega) (by omega) (by rw [hz2]; exact growslice_fits (by omega) (by omega))
    have hge := grownCap_ge w (0 + l2.length) 0 5
    have hcm2 : grownCap w (0 + l2.length) 0 5 ≤ maxLen := grownCap_le_maxLen w (0 + l2.length) 0 5 (by unfold maxLen; omega)
    refine ⟨_, _, hr, .inr ⟨cells_length _, w.heap.size, _, _, (0, 0), by simp; rfl, hB, heap_alloc_new w.drew _, .inl rfl, by simpa using hge, by simpa using hcm2, ?_, ?_⟩, ⟨rfl, rfl, rfl, by simp, fun k hk _ => heap_alloc_old w.drew _ hk⟩⟩
    · have hz1 : (Value.int IntKind.u8 0).cells.size = 1 := rfl
      simp only [Array.size_append, List.size_toArray, List.length_append, size_zeroCells, hz1, List.length_nil, cells_length]
      simp only [Nat.zero_add] at hge ⊢
      omega
    · have hlen : (Lib.byteCells l2).length = l2.length := cells_length _
      simp only [List.nil_append]
      rw [Array.toList_append, ← hlen]
      exact List.take_left
  · obtain ⟨v', w', h1, h2, h3⟩ := run_append_byt (P := Try.prog) w B 26 tx ty 5 i0 Try.underlying26 hi hz0 hz1 hz2 v l.length _ hown x l2.length _ hs (by omega) hB
    exact ⟨v', w', h1, .inr (by rw [List.length_append, cells_append]; exact h2), h3⟩

theorem wpList_append_rw (w : World) {ops : Array Oper} {rest : List Oper} {o : Oper} {a : Act} {Q : Exit → Act → World → Prop} (hgd : o.guard = none) (s x : Operand) (tx : TypeId)
    (ho : o.op = .call { callee := .builtin .append, args := #[s, x], argTypes := #[26, tx] })
    (B : Nat) (v : Value) (l : List UInt8) (hv : a.eval s = v) (hown : Rw w B v l) (y : Value) (l2 : List UInt8) (hx : a.eval x = y) (hs : Src Try.prog 1 tx y l2.length (Lib.byteCells l2) w) (hlim : l.length + l2.length ≤ 100000000) (hp : 0 < l2.length ∨ 0 < l.length) (hB : B ≤ w.heap.size)
    (h : ∀ v' w', Rw w' B v' (l ++ l2) → w.grownBy w' v.ownBlock → wpList Try.prog ops Q rest (a.put o.dst v') w') : wpList Try.prog ops Q (o :: rest) a w := by
  refine wpList_plain hgd fun K hK => ?_
  obtain ⟨v', w', hr, h2, h3⟩ := run_append_rw w B tx o.type v l hown y l2 hs hlim hp hB
  unfold Oper.wp execOp
  simp only [ho, resolve, invoke, builtin, Sem.run_bind, Sem.run_pure, Result.andThen_ok, List.map_toArray, List.map_cons, List.map_nil, hv, hx, hr]
  exact hK _ _ (h v' w' h2 h3)

theorem step_append_rw (w : World) {ops : Array Oper} {o : Oper} {a : Act} {K : Act → World → Prop} {Q : Exit → Act → World → Prop} {E : Prop} (hgd : o.guard = none) (s x : Operand) (tx : TypeId)
    (ho : o.op = .call { callee := .builtin .append, args := #[s, x], argTypes := #[26, tx] })
    (B : Nat) (v : Value) (l : List UInt8) (hv : a.eval s = v) (hown : Rw w B v l) (y : Value) (l2 : List UInt8) (hx : a.eval x = y) (hs : Src Try.prog 1 tx y l2.length (Lib.byteCells l2) w) (hlim : l.length + l2.length ≤ 100000000) (hp : 0 < l2.length ∨ 0 < l.length) (hB : B ≤ w.heap.size)
    (h : ∀ v' w', Rw w' B v' (l ++ l2) → w.grownBy w' v.ownBlock → K (a.put o.dst v') w') :
    if Region.wanted o (yielded ops a.tmps) = true then Oper.wp Try.prog o a w K Q else E := by
  have hw : Region.wanted o (yielded ops a.tmps) = true := by simp [Region.wanted, hgd]
  rw [if_pos hw]
  obtain ⟨v', w', hr, h2, h3⟩ := run_append_rw w B tx o.type v l hown y l2 hs hlim hp hB
  unfold Oper.wp execOp
  simp only [ho, resolve, invoke, builtin, Sem.run_bind, Sem.run_pure, Result.andThen_ok, List.map_toArray, List.map_cons, List.map_nil, hv, hx, hr]
  exact h v' w' h2 h3

set_option maxRecDepth 100000 in
set_option maxHeartbeats 1000000 in
theorem appendTwo_any (v : Value) (l : List UInt8) (n : Int) (B : Nat) (w : World) (hr : Rw w B v l) (hl : l.length ≤ 90000000) (hB : B ≤ w.heap.size) :
    Calls Try.prog 77 #[v, .int .i64 n] w fun e w' => ∃ v', e = .returned v' ∧ Rw w' B v' (l ++ b2 n) ∧ w.grownBy w' v.ownBlock := by
  have HR := Lib.hid hr
  clear hr
  go_enter Try.func77, Try.ntmps77
  go_wp2_with (at_builtin; refine wpList_append_rw _ rfl _ _ 26 rfl B v l rfl (HR.out.alloc _) _ (b2 n) rfl (src_built w (b2 n) _ (by rw [cells_two])) ?c1 ?c2 ?c3 ?_)
  case c1 => simp [b2]; omega
  case c2 => exact .inl (by simp [b2])
  case c3 => simp; omega
  intro v' w' h1 h2
  have H1 := Lib.hid h1
  have h3 := h2
  have H3 := Lib.hid (show w.grownBy w' v.ownBlock from ⟨h2.os, h2.tape, h2.output, by have := h2.size; simp at this; omega, fun k hk hne => (h2.block k (by simp; omega) hne).trans (heap_alloc_old w _ hk)⟩)
  clear h1 h2 h3
  go_wp2_with fail
  go_ret
  exact ⟨v', rfl, H1.out, H3.out⟩

end Go.Proofs.Ytblmhhijgdkkoaa
