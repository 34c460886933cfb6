/-
  Several texts in one: Two, Enc, L3b, TcA, TcI, Fop, Ty.
-/
import Derived.Test.YtepkicgnhjaokaaGreatDoorGVwA
import Derived.Test.YtepkicgnhjaokaaGreatDoorFresh2
import Derived.Test.YtepkicgnhjaokaaGreatDoorBx
import Derived.Test.YtepkicgnhjaokaaGreatDoorInt
import Derived.Deep.RegionLaw
import Derived.Test.YtepkicgnhjaokaaGreatDoorRdTr
import Derived.StillTailTactics
import Derived.Deep.RegionHeld3
import Derived.Test.YtepkicgnhjaokaaGreatDoorGMgC
import Derived.Test.YtepkicgnhjaokaaGreatDoorGTx
namespace Go.Proofs.YtepkicgnhjaokaaGreatDoor
open Go.RowKit Go.Maps

/-- The last byte of a number. -/
def lo8 (n : Int) : UInt8 := UInt8.ofNat (n % 256).toNat
theorem lo8_val (n : Int) : ((lo8 n).toNat : Int) = n % 256 := by
  have h0 : 0 ≤ n % 256 := Int.emod_nonneg _ (by decide)
  have h1 : n % 256 < 256 := Int.emod_lt_of_pos _ (by decide)
  have h2 : (lo8 n).toNat = (n % 256).toNat := by
    unfold lo8
    simp
    omega
  rw [h2]
  omega
/-- Two bytes of a number, the greater one first. -/
def b2 (n : Int) : List UInt8 := [lo8 (n / 256), lo8 n]
theorem cells_append (l l2 : List UInt8) : Lib.byteCells (l ++ l2) = Lib.byteCells l ++ Lib.byteCells l2 := by simp [Lib.byteCells]
theorem cells_length (l : List UInt8) : (Lib.byteCells l).length = l.length := by simp [Lib.byteCells]
theorem cells_one (n : Int) : Lib.byteCells [lo8 n] = [.int .u8 (n % 256)] := by simp [Lib.byteCells, lo8_val]
theorem cells_two (n : Int) : Lib.byteCells (b2 n) = [.int .u8 (n / 256 % 256), .int .u8 (n % 256)] := by simp [Lib.byteCells, b2, lo8_val]

/-- v is a row of the call's own that holds the bytes l, or there is none yet. -/
def Rw (w : World) (B : Nat) (v : Value) (l : List UInt8) : Prop :=
  (v = .slice none 0 0 ∧ l = []) ∨ Byt w B 5 v l.length (Lib.byteCells l)

theorem Rw.nil (w : World) (B : Nat) : Rw w B (.slice none 0 0) [] := .inl ⟨rfl, rfl⟩
theorem Rw.alloc {w : World} {B : Nat} {v : Value} {l : List UInt8} (h : Rw w B v l) (o : Obj) : Rw (w.alloc o) B v l := h.imp id fun h => h.alloc o
theorem Rw.drew {w : World} {B : Nat} {v : Value} {l : List UInt8} (h : Rw w B v l) : Rw w.drew B v l := h
theorem Rw.same {w w' : World} {B : Nat} {v : Value} {l : List UInt8} (h : Rw w B v l) (hw : ∀ g, g < w.heap.size → w'.heap[g]? = w.heap[g]?) : Rw w' B v l := h.imp id fun h => h.same hw
theorem Rw.lt {w : World} {B : Nat} {v : Value} {l : List UInt8} (h : Rw w B v l) : ∀ k, v.ownBlock = some k → B ≤ k ∧ k < w.heap.size := by
  rcases h with ⟨rfl, _⟩ | h
  · intro k hk
    simp [Value.ownBlock] at hk
  · exact h.lt
theorem Rw.low {w : World} {B B' : Nat} {v : Value} {l : List UInt8} (h : Rw w B v l) (hB : B' ≤ B) : Rw w B' v l := h.imp id fun h => by
  obtain ⟨hl, g, cap, cur, fz, h1, h2, rest⟩ := h
  exact ⟨hl, g, cap, cur, fz, h1, Nat.le_trans hB h2, rest⟩
/-- A box of another type is none of its cells. -/
theorem Rw.ne {w : World} {B b : Nat} {v : Value} {l : List UInt8} {cs : Array Value} {t : TypeId} {fz : Nat × Nat} (h : Rw w B v l) (hb : w.heap[b]? = some (.cells cs t fz)) (ht : t ≠ 5) : v.ownBlock ≠ some b := by
  rcases h with ⟨rfl, _⟩ | h
  · simp [Value.ownBlock]
  · intro he
    obtain ⟨c, fz', h2⟩ := h.kind b he
    rw [hb] at h2
    injection h2 with h2
    injection h2 with _ h3 _
    exact ht h3

/-- What a slice that was just built holds. -/
theorem src_built (w : World) (l2 : List UInt8) (cs : Array Value) (hc : cs.toList = Lib.byteCells l2) : Src Tryz.prog 1 22 (.slice (some ⟨w.heap.size, 0, none⟩) l2.length l2.length) l2.length (Lib.byteCells l2) (w.alloc (.cells cs 5)) := by
  refine Src.ofSlice _ Tryz.underlying22 ⟨w.heap.size, 0, none⟩ l2.length l2.length _ (by simp [cells_length]) (fun j u hj => ?_) (fun u hu => ?_)
  · rw [Addr.add_lit, Nat.zero_add]
    simp only [World.cell?, heap_alloc_new]
    rw [← hc] at hj
    simpa using hj
  · simp only [Lib.byteCells, List.mem_map] at hu
    obtain ⟨b, _, rfl⟩ := hu
    rfl

theorem src_built' (w : World) (b : Nat) (hb : w.heap.size = b) (l2 : List UInt8) (cs : Array Value) (hc : cs.toList = Lib.byteCells l2) : Src Tryz.prog 1 22 (.slice (some ⟨b, 0, none⟩) l2.length l2.length) l2.length (Lib.byteCells l2) (w.alloc (.cells cs 5)) := by
  subst hb
  exact src_built w l2 cs hc
theorem src_built_drew (w : World) (b : Nat) (hb : w.heap.size = b) (l2 : List UInt8) (cs : Array Value) (hc : cs.toList = Lib.byteCells l2) : Src Tryz.prog 1 22 (.slice (some ⟨b, 0, none⟩) l2.length l2.length) l2.length (Lib.byteCells l2) (w.alloc (.cells cs 5)).drew := by
  subst hb
  refine Src.ofSlice _ Tryz.underlying22 ⟨w.heap.size, 0, none⟩ l2.length l2.length _ (by simp [cells_length]) (fun j u hj => ?_) (fun u hu => ?_)
  · show (w.alloc (.cells cs 5)).cell? _ = _
    rw [Addr.add_lit, Nat.zero_add]
    simp only [World.cell?, heap_alloc_new]
    rw [← hc] at hj
    simpa using hj
  · simp only [Lib.byteCells, List.mem_map] at hu
    obtain ⟨b, _, rfl⟩ := hu
    rfl
theorem wrap8 (n : Int) : IntKind.u8.wrap n = n % 256 := by
  rw [IntKind.wrap_u8]
theorem src_str (w : World) (l : List UInt8) : Src Tryz.prog 1 9 (.string ⟨l.toArray⟩) l.length (Lib.byteCells l) w :=
  Src.ofString (P := Tryz.prog) w Tryz.underlying9 ⟨l.toArray⟩
/-- A box of another type, behind an append. -/
theorem Rw.box {w w' : World} {B b : Nat} {v : Value} {l : List UInt8} {cs : Array Value} {t : TypeId} {fz : Nat × Nat} (h : Rw w B v l) (hb : w.heap[b]? = some (.cells cs t fz)) (ht : t ≠ 5) (hg : w.grownBy w' v.ownBlock) : w'.heap[b]? = some (.cells cs t fz) :=
  (hg.block b (Array.getElem?_eq_some_iff.1 hb).1 (fun e => h.ne hb ht e.symm)).trans hb

theorem run_append_rw (w : World) (B : Nat) (tx ty : TypeId) (v : Value) (l : List UInt8) (hown : Rw w B v l) (x : Value) (l2 : List UInt8) (hs : Src Tryz.prog 1 tx x l2.length (Lib.byteCells l2) w) (hlim : l.length + l2.length ≤ 100000000) (hp : 0 < l2.length ∨ 0 < l.length) (hB : B ≤ w.heap.size) :
    ∃ v' w', (Builtin.append_ #[22, tx] ty #[v, x]).run Tryz.prog w = .ok v' w' ∧ Rw w' B v' (l ++ l2) ∧ w.grownBy w' v.ownBlock := by
  obtain ⟨i0, hi, hz0, hz1, hz2⟩ := info_parts (show (Tryz.prog.info? 5).map (fun i => (i.zero, i.size, i.bytes)) = some (some (.int .u8 0), 1, 1) by kernel_rfl)
  rcases hown with ⟨rfl, rfl⟩ | hown
  · have hm : 0 < l2.length := by
      rcases hp with h | h
      · exact h
      · simp at h
    have hr := run_append_grow_src (P := Tryz.prog) w 22 tx ty 5 i0 (.int .u8 0) Tryz.underlying22 hi hz0 none 0 0 [] (by simp [Builtin.firstCells]) x l2.length _ (by rw [hz1]; exact hs) (by omega) (by omega) (by rw [hz2]; exact growslice_fits (by omega) (by omega))
    have hge := grownCap_ge w (0 + l2.length) 0 5
    have hcm2 : grownCap w (0 + l2.length) 0 5 ≤ maxLen := grownCap_le_maxLen w (0 + l2.length) 0 5 (by unfold maxLen; omega)
    refine ⟨_, _, hr, .inr ⟨cells_length _, w.heap.size, _, _, (0, 0), by simp; rfl, hB, heap_alloc_new w.drew _, .inl rfl, by simpa using hge, by simpa using hcm2, ?_, ?_⟩, ⟨rfl, rfl, rfl, by simp, fun k hk _ => heap_alloc_old w.drew _ hk⟩⟩
    · have hz1 : (Value.int IntKind.u8 0).cells.size = 1 := rfl
      simp only [Array.size_append, List.size_toArray, List.length_append, size_zeroCells, hz1, List.length_nil, cells_length]
      simp only [Nat.zero_add] at hge ⊢
      omega
    · have hlen : (Lib.byteCells l2).length = l2.length := cells_length _
      simp only [List.nil_append]
      rw [Array.toList_append, ← hlen]
      exact List.take_left
  · obtain ⟨v', w', h1, h2, h3⟩ := run_append_byt (P := Tryz.prog) w B 22 tx ty 5 i0 Tryz.underlying22 hi hz0 hz1 hz2 v l.length _ hown x l2.length _ hs (by omega) hB
    exact ⟨v', w', h1, .inr (by rw [List.length_append, cells_append]; exact h2), h3⟩

theorem wpList_append_rw (w : World) {ops : Array Oper} {rest : List Oper} {o : Oper} {a : Act} {Q : Exit → Act → World → Prop} (hgd : o.guard = none) (s x : Operand) (tx : TypeId)
    (ho : o.op = .call { callee := .builtin .append, args := #[s, x], argTypes := #[22, tx] })
    (B : Nat) (v : Value) (l : List UInt8) (hv : a.eval s = v) (hown : Rw w B v l) (y : Value) (l2 : List UInt8) (hx : a.eval x = y) (hs : Src Tryz.prog 1 tx y l2.length (Lib.byteCells l2) w) (hlim : l.length + l2.length ≤ 100000000) (hp : 0 < l2.length ∨ 0 < l.length) (hB : B ≤ w.heap.size)
    (h : ∀ v' w', Rw w' B v' (l ++ l2) → w.grownBy w' v.ownBlock → wpList Tryz.prog ops Q rest (a.put o.dst v') w') : wpList Tryz.prog ops Q (o :: rest) a w := by
  refine wpList_plain hgd fun K hK => ?_
  obtain ⟨v', w', hr, h2, h3⟩ := run_append_rw w B tx o.type v l hown y l2 hs hlim hp hB
  unfold Oper.wp execOp
  simp only [ho, resolve, invoke, builtin, Sem.run_bind, Sem.run_pure, Result.andThen_ok, List.map_toArray, List.map_cons, List.map_nil, hv, hx, hr]
  exact hK _ _ (h v' w' h2 h3)

theorem step_append_rw (w : World) {ops : Array Oper} {o : Oper} {a : Act} {K : Act → World → Prop} {Q : Exit → Act → World → Prop} {E : Prop} (hgd : o.guard = none) (s x : Operand) (tx : TypeId)
    (ho : o.op = .call { callee := .builtin .append, args := #[s, x], argTypes := #[22, tx] })
    (B : Nat) (v : Value) (l : List UInt8) (hv : a.eval s = v) (hown : Rw w B v l) (y : Value) (l2 : List UInt8) (hx : a.eval x = y) (hs : Src Tryz.prog 1 tx y l2.length (Lib.byteCells l2) w) (hlim : l.length + l2.length ≤ 100000000) (hp : 0 < l2.length ∨ 0 < l.length) (hB : B ≤ w.heap.size)
    (h : ∀ v' w', Rw w' B v' (l ++ l2) → w.grownBy w' v.ownBlock → K (a.put o.dst v') w') :
    if Region.wanted o (yielded ops a.tmps) = true then Oper.wp Tryz.prog o a w K Q else E := by
  have hw : Region.wanted o (yielded ops a.tmps) = true := by simp [Region.wanted, hgd]
  rw [if_pos hw]
  obtain ⟨v', w', hr, h2, h3⟩ := run_append_rw w B tx o.type v l hown y l2 hs hlim hp hB
  unfold Oper.wp execOp
  simp only [ho, resolve, invoke, builtin, Sem.run_bind, Sem.run_pure, Result.andThen_ok, List.map_toArray, List.map_cons, List.map_nil, hv, hx, hr]
  exact h v' w' h2 h3

set_option maxRecDepth 100000 in
set_option maxHeartbeats 1000000 in
theorem appendTwo_any (v : Value) (l : List UInt8) (n : Int) (B : Nat) (w : World) (hr : Rw w B v l) (hl : l.length ≤ 90000000) (hB : B ≤ w.heap.size) :
    Calls Tryz.prog 81 #[v, .int .i64 n] w fun e w' => ∃ v', e = .returned v' ∧ Rw w' B v' (l ++ b2 n) ∧ w.grownBy w' v.ownBlock := by
  have HR := Lib.hid hr
  clear hr
  go_enter Tryz.func81, Tryz.ntmps81
  go_wp2_with (at_builtin; refine wpList_append_rw _ rfl _ _ 22 rfl B v l rfl (HR.out.alloc _) _ (b2 n) rfl (src_built w (b2 n) _ (by rw [cells_two])) ?c1 ?c2 ?c3 ?_)
  case c1 => simp [b2]; omega
  case c2 => exact .inl (by simp [b2])
  case c3 => simp; omega
  intro v' w' h1 h2
  have H1 := Lib.hid h1
  have h3 := h2
  have H3 := Lib.hid (show w.grownBy w' v.ownBlock from ⟨h2.os, h2.tape, h2.output, by have := h2.size; simp at this; omega, fun k hk hne => (h2.block k (by simp; omega) hne).trans (heap_alloc_old w _ hk)⟩)
  clear h1 h2 h3
  go_wp2_with fail
  go_ret
  exact ⟨v', rfl, H1.out, H3.out⟩

end Go.Proofs.YtepkicgnhjaokaaGreatDoor

namespace Go.Proofs.YtepkicgnhjaokaaGreatDoor
open Go.RowKit Go.Maps

/-- The bytes of an entry. -/
def ebV (e : En) : List UInt8 := [lo8 e.name.length] ++ (e.name ++ (b2 e.val ++ ([lo8 e.dev] ++ b2 e.num)))
/-- The bytes of a tree. -/
def tbV (vec : List Int) (es : List En) : List UInt8 := vec.flatMap b2 ++ ([lo8 es.length] ++ es.flatMap ebV)
theorem ebV_length (e : En) : (ebV e).length = e.name.length + 6 := by
  simp [ebV, b2]
theorem ebs_length (es : List En) : (es.flatMap ebV).length = ebulk es + 6 * es.length := by
  induction es with
  | nil => simp [ebulk]
  | cons e es ih =>
    rw [List.flatMap_cons, List.length_append, ih, ebV_length]
    simp [ebulk]
    omega
theorem b2s_length (vec : List Int) : (vec.flatMap b2).length = 2 * vec.length := by
  induction vec with
  | nil => simp
  | cons v vs ih =>
    rw [List.flatMap_cons, List.length_append, ih]
    simp [b2]
    omega
theorem tbV_length (vec : List Int) (es : List En) : (tbV vec es).length = 2 * vec.length + 1 + (ebulk es + 6 * es.length) := by
  unfold tbV
  rw [List.length_append, List.length_append, b2s_length, ebs_length]
  simp
  omega
theorem ebs_take_succ (es : List En) (k : Nat) (h : k < es.length) : (es.take (k + 1)).flatMap ebV = (es.take k).flatMap ebV ++ ebV es[k] := by
  rw [List.take_succ_eq_append_getElem h, List.flatMap_append]
  simp
theorem b2s_take_succ (a b c d : Int) (k : Nat) (h : k < 4) : ([a, b, c, d].take (k + 1)).flatMap b2 = ([a, b, c, d].take k).flatMap b2 ++ b2 (nth4 a b c d k) := by
  match k, h with
  | 0, _ => simp [nth4]
  | 1, _ => simp [nth4]
  | 2, _ => simp [nth4]
  | 3, _ => simp [nth4]

/-- New bytes are handed back. -/
def NewRw (l : List UInt8) (w : World) (e : Ending) (w' : World) : Prop := ∃ v, e = .returned v ∧ Rw w' w.heap.size v l ∧ Below w.heap.size w w'

theorem below_grownRw {B : Nat} {a w w' : World} {v : Value} {l : List UInt8} (h : Below B a w) (hr : Rw w B v l) (hg : w.grownBy w' v.ownBlock) (hB : B ≤ w.heap.size) : Below B a w' := h.grown hg hB fun k hk => (hr.lt k hk).1

set_option maxRecDepth 100000 in
set_option maxHeartbeats 4000000 in
theorem encoded_any (a b c d : Int) (A : Option Addr) (es : List En) (cap : Nat) (w : World) (hA : EvsIn w 0 w.heap.size A es) (hn : es.length ≤ 1000) (hbk : ebulk es ≤ 1048576) :
    Calls Tryz.prog 53 #[.agg #[.int .i64 a, .int .i64 b, .int .i64 c, .int .i64 d, .slice A es.length cap]] w (NewRw (tbV [a, b, c, d] es) w) := by
  have HA := Lib.hid hA
  clear hA
  go_enter Tryz.func53, Tryz.ntmps53
  go_wp2_with fail
  obtain ⟨W, hW⟩ : ∃ W, W = w.alloc (.cells #[.int .i64 a, .int .i64 b, .int .i64 c, .int .i64 d, .slice A es.length cap] 66) := ⟨_, rfl⟩
  have HX := Lib.hid (show Bx W w.heap.size [.int .i64 a, .int .i64 b, .int .i64 c, .int .i64 d, .slice A es.length cap] by rw [hW]; exact Bx.new' _ _ _ _ rfl)
  have HBel := Lib.hid (show Below w.heap.size w W by rw [hW]; exact (Below.refl _ _).alloc (Nat.le_refl _) _)
  have hz : w.heap.size < W.heap.size := by rw [hW]; simp
  rw [← hW]
  clear hW
  go_loopw [3, 10] (fun x i wr => ∃ k : Nat, k ≤ 4 ∧ i = .int .i64 k ∧ Rw wr W.heap.size x (([a, b, c, d].take k).flatMap b2) ∧ Below W.heap.size W wr) (fun _ i _ => 4 - (intOf i).toNat)
  case atStart => exact ⟨0, by omega, rfl, Rw.nil _ _, Below.refl _ _⟩
  case round =>
    obtain ⟨k, hk, rfl, hrw, hbel⟩ := hrel
    have HRw := Lib.hid hrw
    have HBr := Lib.hid hbel
    have hzr := hbel.size
    clear hrw hbel
    by_cases hlt : k < 4
    · have hix := Tryz.index4 a b c d k hlt
      have HS := Lib.hid (b2s_take_succ a b c d k hlt)
      have hl := b2s_length ([a, b, c, d].take k)
      have hl2 : ([a, b, c, d].take k).length ≤ 4 := by simp; omega
      obtain ⟨x, hx⟩ : ∃ x, x = nth4 a b c d k := ⟨_, rfl⟩
      rw [← hx] at hix HS
      obtain ⟨F, hF⟩ : ∃ F, F = ([a, b, c, d].take k).flatMap b2 := ⟨_, rfl⟩
      rw [← hF] at HRw HS hl
      have HS2 := Lib.hid hF
      clear hx hF
      go_wp2_with fail
      refine (appendTwo_any _ F x W.heap.size wr HRw.out (by omega) hzr).mono ?_
      rintro e w1 ⟨v1, rfl, hr1, hg1⟩
      have HR1 := Lib.hid hr1
      have HB1 := Lib.hid (below_grownRw HBr.out HRw.out hg1 hzr)
      clear hr1 hg1
      go_wp2_with fail
      go_roundw
      case rel => exact ⟨k + 1, by omega, by go_num, by rw [HS.out]; exact HR1.out, HB1.out⟩
      case measure => simp [intOf]; omega
    · have hke : k = 4 := by omega
      subst hke
      have HF := Lib.hid (show ([a, b, c, d].take 4).flatMap b2 = [a, b, c, d].flatMap b2 from rfl)
      rw [HF.out] at HRw
      have hl := b2s_length [a, b, c, d]
      obtain ⟨F, hF⟩ : ∃ F, F = [a, b, c, d].flatMap b2 := ⟨_, rfl⟩
      rw [← hF] at HRw hl
      have HFe := Lib.hid hF
      clear hF HF
      have hl8 : F.length = 8 := by simpa using hl
      have x4 := (HBr.out.cell (p := ⟨w.heap.size, 4, none⟩) hz).trans (HX.out 4 (by simp))
      simp only [List.getElem_cons_succ, List.getElem_cons_zero] at x4
      have lw : w.heap.size < wr.heap.size := by omega
      go_wp2_with (at_builtin; refine wpList_append_rw _ rfl _ _ 22 rfl W.heap.size _ F rfl (HRw.out.alloc _) _ [lo8 es.length] rfl (src_built wr [lo8 es.length] _ (by rw [cells_one])) ?c1 ?c2 ?c3 ?_)
      case c1 => simp; omega
      case c2 => exact .inl (by simp)
      case c3 => simp; omega
      intro v1 w1 hr1 hg1
      have HR1 := Lib.hid hr1
      have HB1 := Lib.hid (below_grownRw (HBr.out.alloc hzr (.cells #[.int .u8 ((es.length : Int) % 256)] 5)) (HRw.out.alloc _) hg1 (by simp; omega))
      have x4 := (HB1.out.cell (p := ⟨w.heap.size, 4, none⟩) hz).trans (HX.out 4 (by simp))
      simp only [List.getElem_cons_succ, List.getElem_cons_zero] at x4
      have hz1 := HB1.out.size
      have lw : w.heap.size < w1.heap.size := by omega
      obtain ⟨P0, hP0⟩ : ∃ P0, P0 = F ++ [lo8 es.length] := ⟨_, rfl⟩
      have hPl : P0.length = 9 := by rw [hP0]; simp [hl8]
      rw [← hP0] at HR1
      have HP0 := Lib.hid hP0
      clear hr1 hg1 hP0 hl hl8 HRw
      go_wp2_with fail
      go_loopw [3, 27] (fun x i ww => ∃ k : Nat, k ≤ es.length ∧ i = .int .i64 k ∧ Rw ww W.heap.size x (P0 ++ (es.take k).flatMap ebV) ∧ Below W.heap.size W ww) (fun _ i _ => es.length - (intOf i).toNat)
      case atStart => exact ⟨0, Nat.zero_le _, rfl, by simpa using HR1.out, HB1.out⟩
      case round =>
        rename World => wq
        obtain ⟨k, hk, rfl, hrw, hbel⟩ := hrel
        have HRq := Lib.hid hrw
        have HBq := Lib.hid hbel
        have hzq := hbel.size
        clear hrw hbel
        by_cases hlt : k < es.length
        · obtain ⟨bA, oA, hAe, _, hbA, hcA⟩ := HA.out (by omega)
          have HO := Lib.hid (HBel.out.trans (HBq.out.mono (by omega)))
          obtain ⟨c0, c1, c2, c3⟩ := (hcA k hlt).keep (w' := wq) fun o => HO.out.cell hbA
          have HS := Lib.hid (ebs_take_succ es k hlt)
          have hql := ebs_length (es.take k)
          have hqb := ebulk_take_succ es k hlt
          have hqe := ebulk_take_le es (k + 1)
          obtain ⟨e, he⟩ : ∃ e, e = es[k] := ⟨_, rfl⟩
          rw [← he] at c0 c1 c2 c3 HS hqb
          have htl : (es.take k).length ≤ 1000 := by simp; omega
          obtain ⟨F, hF⟩ : ∃ F, F = (es.take k).flatMap ebV := ⟨_, rfl⟩
          rw [← hF] at HRq HS hql
          have hnl : e.name.length ≤ 1048576 := by omega
          have hFl : F.length ≤ 2000000 := by omega
          clear hcA he hF hql hqb hqe
          subst hAe
          obtain ⟨n1, v1', d1, m1⟩ := e
          simp only at c0 c1 c2 c3 hnl
          have hlt' : (k : Int) < (es.length : Int) := by omega
          obtain ⟨L1, hL1⟩ : ∃ L1, L1 = P0 ++ F := ⟨_, rfl⟩
          have hl1 : L1.length ≤ 2000100 := by rw [hL1, List.length_append]; omega
          rw [← hL1] at HRq
          have HL1 := Lib.hid hL1
          clear hL1
          have HZ0 := Lib.hid (show (wq.alloc (.cells #[.string ⟨n1.toArray⟩, .int .i64 v1', .int .i64 d1, .int .i64 m1] 74)).heap[wq.heap.size]? = some (.cells #[.string ⟨n1.toArray⟩, .int .i64 v1', .int .i64 d1, .int .i64 m1] 74 (0, 0)) from heap_alloc_new _ _)
          have HZ1 := Lib.hid (show ((wq.alloc (.cells #[.string ⟨n1.toArray⟩, .int .i64 v1', .int .i64 d1, .int .i64 m1] 74)).alloc (.cells #[.int .u8 ((n1.length : Int) % 256)] 5)).heap[wq.heap.size]? = some (.cells #[.string ⟨n1.toArray⟩, .int .i64 v1', .int .i64 d1, .int .i64 m1] 74 (0, 0)) from (heap_alloc_old _ _ (by simp)).trans HZ0.out)
          go_wp2_with (at_builtin; refine wpList_append_rw _ rfl _ _ 22 rfl W.heap.size _ L1 rfl ((HRq.out.alloc _).alloc _) _ [lo8 n1.length] rfl (src_built' _ (wq.heap.size + 1) (by simp) [lo8 n1.length] _ (by rw [cells_one])) ?c1 ?c2 ?c3 ?_)
          case c1 => simp; omega
          case c2 => exact .inl (by simp)
          case c3 => simp; omega
          intro v2 w2 hr2 hg2
          have HR2 := Lib.hid hr2
          have HZ2 := Lib.hid (((HRq.out.alloc _).alloc _).box HZ1.out (by decide) hg2)
          have HB2 := Lib.hid (below_grownRw ((HBq.out.alloc hzq (.cells #[.string ⟨n1.toArray⟩, .int .i64 v1', .int .i64 d1, .int .i64 m1] 74)).alloc (by simp; omega) (.cells #[.int .u8 ((n1.length : Int) % 256)] 5)) ((HRq.out.alloc _).alloc _) hg2 (by simp; omega))
          have hz2 := HB2.out.size
          clear hr2 hg2 c0 c1 c2 c3 HZ0 HZ1
          obtain ⟨L2, hL2⟩ : ∃ L2, L2 = L1 ++ [lo8 n1.length] := ⟨_, rfl⟩
          have hl2 : L2.length = L1.length + 1 := by rw [hL2, List.length_append]; rfl
          have hl2p : 0 < L2.length := by omega
          rw [← hL2] at HR2
          have HL2 := Lib.hid hL2
          clear hL2
          have z0 : w2.cell? ⟨wq.heap.size, 0, none⟩ = some (.string ⟨n1.toArray⟩) := by have hh := HZ2.out; simp [World.cell?, hh]
          have z1 : w2.cell? ⟨wq.heap.size, 1, none⟩ = some (.int .i64 v1') := by have hh := HZ2.out; simp [World.cell?, hh]
          have z2 : w2.cell? ⟨wq.heap.size, 2, none⟩ = some (.int .i64 d1) := by have hh := HZ2.out; simp [World.cell?, hh]
          have z3 : w2.cell? ⟨wq.heap.size, 3, none⟩ = some (.int .i64 m1) := by have hh := HZ2.out; simp [World.cell?, hh]
          have lb2 : wq.heap.size < w2.heap.size := World.block_lt_of_cell? w2 _ z0
          go_wp2_with (at_builtin; refine wpList_append_rw _ rfl _ _ 9 rfl W.heap.size _ L2 rfl HR2.out _ n1 rfl (src_str _ n1) ?c1 ?c2 ?c3 ?_)
          case c1 => omega
          case c2 => exact .inr hl2p
          case c3 => exact hz2
          intro v3 w3 hr3 hg3
          have HR3 := Lib.hid hr3
          have HZ3 := Lib.hid (HR2.out.box HZ2.out (by decide) hg3)
          have HB3 := Lib.hid (below_grownRw HB2.out HR2.out hg3 hz2)
          have hz3 := HB3.out.size
          clear hr3 hg3 z0 z1 z2 z3
          obtain ⟨L3, hL3⟩ : ∃ L3, L3 = L2 ++ n1 := ⟨_, rfl⟩
          have hl3 : L3.length = L2.length + n1.length := by rw [hL3, List.length_append]
          rw [← hL3] at HR3
          have HL3 := Lib.hid hL3
          clear hL3
          have z0 : w3.cell? ⟨wq.heap.size, 0, none⟩ = some (.string ⟨n1.toArray⟩) := by have hh := HZ3.out; simp [World.cell?, hh]
          have z1 : w3.cell? ⟨wq.heap.size, 1, none⟩ = some (.int .i64 v1') := by have hh := HZ3.out; simp [World.cell?, hh]
          have z2 : w3.cell? ⟨wq.heap.size, 2, none⟩ = some (.int .i64 d1) := by have hh := HZ3.out; simp [World.cell?, hh]
          have z3 : w3.cell? ⟨wq.heap.size, 3, none⟩ = some (.int .i64 m1) := by have hh := HZ3.out; simp [World.cell?, hh]
          have lb3 : wq.heap.size < w3.heap.size := World.block_lt_of_cell? w3 _ z0
          go_wp2_with fail
          refine (appendTwo_any v3 L3 v1' W.heap.size w3 HR3.out (by omega) hz3).mono ?_
          rintro e w4 ⟨v4, rfl, hr4, hg4⟩
          have HR4 := Lib.hid hr4
          have HZ4 := Lib.hid (HR3.out.box HZ3.out (by decide) hg4)
          have HB4 := Lib.hid (below_grownRw HB3.out HR3.out hg4 hz3)
          have hz4 := HB4.out.size
          clear hr4 hg4 z0 z1 z2 z3
          obtain ⟨L4, hL4⟩ : ∃ L4, L4 = L3 ++ b2 v1' := ⟨_, rfl⟩
          have hl4 : L4.length = L3.length + 2 := by rw [hL4, List.length_append]; rfl
          rw [← hL4] at HR4
          have HL4 := Lib.hid hL4
          clear hL4
          have z0 : w4.cell? ⟨wq.heap.size, 0, none⟩ = some (.string ⟨n1.toArray⟩) := by have hh := HZ4.out; simp [World.cell?, hh]
          have z1 : w4.cell? ⟨wq.heap.size, 1, none⟩ = some (.int .i64 v1') := by have hh := HZ4.out; simp [World.cell?, hh]
          have z2 : w4.cell? ⟨wq.heap.size, 2, none⟩ = some (.int .i64 d1) := by have hh := HZ4.out; simp [World.cell?, hh]
          have z3 : w4.cell? ⟨wq.heap.size, 3, none⟩ = some (.int .i64 m1) := by have hh := HZ4.out; simp [World.cell?, hh]
          have lb4 : wq.heap.size < w4.heap.size := World.block_lt_of_cell? w4 _ z0
          have HZ4a := Lib.hid (show (w4.alloc (.cells #[.int .u8 (d1 % 256)] 5)).heap[wq.heap.size]? = some (.cells #[.string ⟨n1.toArray⟩, .int .i64 v1', .int .i64 d1, .int .i64 m1] 74 (0, 0)) from (heap_alloc_old _ _ lb4).trans HZ4.out)
          go_wp2_with (at_builtin; refine wpList_append_rw _ rfl _ _ 22 rfl W.heap.size _ L4 rfl (HR4.out.alloc _) _ [lo8 d1] rfl (src_built w4 [lo8 d1] _ (by rw [cells_one])) ?c1 ?c2 ?c3 ?_)
          case c1 => simp; omega
          case c2 => exact .inl (by simp)
          case c3 => simp; omega
          intro v5 w5 hr5 hg5
          have HR5 := Lib.hid hr5
          have HZ5 := Lib.hid ((HR4.out.alloc _).box HZ4a.out (by decide) hg5)
          have HB5 := Lib.hid (below_grownRw (HB4.out.alloc hz4 (.cells #[.int .u8 (d1 % 256)] 5)) (HR4.out.alloc _) hg5 (by simp; omega))
          have hz5 := HB5.out.size
          clear hr5 hg5 z0 z1 z2 z3
          obtain ⟨L5, hL5⟩ : ∃ L5, L5 = L4 ++ [lo8 d1] := ⟨_, rfl⟩
          have hl5 : L5.length = L4.length + 1 := by rw [hL5, List.length_append]; rfl
          rw [← hL5] at HR5
          have HL5 := Lib.hid hL5
          clear hL5
          have z0 : w5.cell? ⟨wq.heap.size, 0, none⟩ = some (.string ⟨n1.toArray⟩) := by have hh := HZ5.out; simp [World.cell?, hh]
          have z1 : w5.cell? ⟨wq.heap.size, 1, none⟩ = some (.int .i64 v1') := by have hh := HZ5.out; simp [World.cell?, hh]
          have z2 : w5.cell? ⟨wq.heap.size, 2, none⟩ = some (.int .i64 d1) := by have hh := HZ5.out; simp [World.cell?, hh]
          have z3 : w5.cell? ⟨wq.heap.size, 3, none⟩ = some (.int .i64 m1) := by have hh := HZ5.out; simp [World.cell?, hh]
          have lb5 : wq.heap.size < w5.heap.size := World.block_lt_of_cell? w5 _ z0
          go_wp2_with fail
          refine (appendTwo_any v5 L5 m1 W.heap.size w5 HR5.out (by omega) hz5).mono ?_
          rintro e w6 ⟨v6, rfl, hr6, hg6⟩
          have HR6 := Lib.hid hr6
          have HB6 := Lib.hid (below_grownRw HB5.out HR5.out hg6 hz5)
          clear hr6 hg6 z0 z1 z2 z3
          go_wp2_with fail
          go_roundw
          case rel =>
            refine ⟨k + 1, by omega, by go_num, ?_, HB6.out⟩
            rw [HS.out]
            have h6 := HR6.out
            rw [HL5.out, HL4.out, HL3.out, HL2.out, HL1.out] at h6
            simpa [ebV, List.append_assoc] using h6
          case measure => simp [intOf]; omega
        · have hke : k = es.length := by omega
          have HFin := Lib.hid (show Rw wq W.heap.size _ (tbV [a, b, c, d] es) from by
            have h6 := HRq.out
            rw [hke, List.take_length, HP0.out, HFe.out] at h6
            simpa [tbV, List.append_assoc] using h6)
          have HO := Lib.hid (HBel.out.trans (HBq.out.mono (by omega)))
          have hWw : w.heap.size ≤ W.heap.size := by omega
          clear hke
          go_wp2_with fail
          go_ret
          exact ⟨_, rfl, HFin.out.low hWw, HO.out⟩

end Go.Proofs.YtepkicgnhjaokaaGreatDoor

namespace Go.Proofs.YtepkicgnhjaokaaGreatDoor
open Go.RowKit Go.Maps

theorem src_bytes (w : World) {L B g o : Nat} {l : List UInt8} (c : Nat) (h : BytesIn w L B (some ⟨g, o, none⟩) l) : Src Tryz.prog 1 22 (.slice (some ⟨g, o, none⟩) l.length c) l.length (Lib.byteCells l) w := by
  refine Src.ofSlice _ Tryz.underlying22 ⟨g, o, none⟩ l.length c _ (by simp [cells_length]) (fun j u hj => ?_) (fun u hu => ?_)
  · have hl : j < l.length := by
      have := (List.getElem?_eq_some_iff.1 hj).1
      rwa [cells_length] at this
    obtain ⟨b, o', e, _, _, hc⟩ := h (by omega)
    cases e
    rw [Addr.add_lit, hc j hl, ← hj]
    simp [Lib.byteCells, hl]
  · simp only [Lib.byteCells, List.mem_map] at hu
    obtain ⟨b, _, rfl⟩ := hu
    rfl

theorem b2s_succ (vec : List Int) (k : Nat) (h : k < vec.length) : (vec.take (k + 1)).flatMap b2 = (vec.take k).flatMap b2 ++ b2 vec[k] := by
  rw [List.take_succ_eq_append_getElem h, List.flatMap_append]
  simp
theorem cells_five (v d m : Int) : Lib.byteCells (b2 v ++ ([lo8 d] ++ b2 m)) = [.int .u8 (v / 256 % 256), .int .u8 (v % 256), .int .u8 (d % 256), .int .u8 (m / 256 % 256), .int .u8 (m % 256)] := by
  rw [cells_append, cells_append, cells_two, cells_two, cells_one]
  rfl

end Go.Proofs.YtepkicgnhjaokaaGreatDoor

namespace Go.Proofs.YtepkicgnhjaokaaGreatDoor
open Go.RowKit Go.Maps

theorem Rw.frT {w : World} {B : Nat} {v : Value} {l : List UInt8} (h : Rw w B v l) : ∃ A c, v = .slice A l.length c ∧ BytesFr w B w.heap.size A l := by
  rcases h with ⟨rfl, rfl⟩ | ⟨_, g, cap, cur, fz, rfl, hb, hg, hfz, hnc, _, hcs, htk⟩
  · exact ⟨none, 0, rfl, fun h => absurd h (by simp)⟩
  · refine ⟨some ⟨g, 0, none⟩, cap, rfl, fun _ => ⟨g, 0, rfl, hb, (Array.getElem?_eq_some_iff.1 hg).1, fun j hj => ⟨?_, ?_⟩⟩⟩
    · have hu : (Lib.byteCells l)[j]? = some (.int .u8 (l[j].toNat : Int)) := by simp [Lib.byteCells, hj]
      rw [← htk, List.getElem?_take, if_pos (by omega)] at hu
      rw [Nat.zero_add, World.cell?, hg]
      simpa using hu
    · rw [Nat.zero_add]
      simp only [World.frozen?, hg]
      rcases hfz with h2 | h2
      · simp [h2]
      · simp
        omega

/-- How two trees lie in order. -/
def tcI (vec : List Int) (es : List En) (vec2 : List Int) (es2 : List En) : Int := if treeB vec es && treeB vec2 es2 then Lib.compareBytes (tbV vec es) (tbV vec2 es2) else 0

theorem run_bytes_at {P : Program} {w : World} : ∀ (l : List UInt8) (a : Addr) (acc : ByteArray), (∀ j (hj : j < l.length), w.cell? (a.add j) = some (.int .u8 (l[j].toNat : Int))) → (Extern.Bytes.loadBytes a l.length acc).run P w = .ok ⟨acc.data ++ l.toArray⟩ w
  | [], a, acc, _ => by simp [Extern.Bytes.loadBytes]
  | x :: l, a, acc, h => by
    have h0 := h 0 (by simp)
    have ha : a.add 0 = a := by simp [Addr.add]
    rw [ha] at h0
    simp only [List.getElem_cons_zero] at h0
    have ih := run_bytes_at (P := P) (w := w) l (a.add 1) (acc.push x) (fun j hj => by
      have := h (j + 1) (by simpa using hj)
      simp only [List.getElem_cons_succ] at this
      have e : (a.add 1).add j = a.add (j + 1) := by
        unfold Addr.add
        by_cases hj : j = 0
        · subst hj; simp
        · simp [hj]; omega
      rw [e]; exact this)
    simp only [List.length_cons, Extern.Bytes.loadBytes, Sem.run_bind, run_load, h0, Result.andThen]
    have hx : ((x.toNat : Int).toNat.toUInt8) = x := by simp
    rw [hx, ih]
    congr 1
    apply ByteArray.ext
    simp [ByteArray.push]

theorem run_bytes_of {P : Program} {w : World} {L B : Nat} {A : Option Addr} {l : List UInt8} (h : BytesIn w L B A l) (c : Nat) : (Extern.Bytes.bytesOf (.slice A l.length c)).run P w = .ok ⟨l.toArray⟩ w := by
  cases A with
  | none =>
    obtain rfl : l = [] := by
      cases l with
      | nil => rfl
      | cons x xs => obtain ⟨b, o, e, _⟩ := h (by simp); cases e
    rfl
  | some a =>
    unfold Extern.Bytes.bytesOf
    rw [run_bytes_at l a .empty (fun j hj => by
      obtain ⟨b, o, e, _, _, hc⟩ := h (by omega)
      obtain rfl : a = ⟨b, o, none⟩ := by simpa using e
      have e2 : (⟨b, o, none⟩ : Addr).add j = ⟨b, o + j, none⟩ := by
        unfold Addr.add
        by_cases h : j = 0
        · subst h; simp
        · simp [h]
      rw [e2]
      exact hc j hj)]
    simp

theorem run_cmp_bytes {P : Program} {w : World} {L B L2 B2 : Nat} {A A2 : Option Addr} {l m : List UInt8} (h : BytesIn w L B A l) (h2 : BytesIn w L2 B2 A2 m) (c d : Nat) :
    (Extern.BytealgCompare.compare #[.slice A l.length c, .slice A2 m.length d]).run P w = .ok (.int .i64 (Lib.compareBytes l m)) w := by
  change Sem.run P (do pure (goInt (Extern.BytealgCompare.cmp (← Extern.Bytes.bytesOf (.slice A l.length c)) (← Extern.Bytes.bytesOf (.slice A2 m.length d))))) w = _
  simp only [Sem.run_bind, run_bytes_of h c, run_bytes_of h2 d, Sem.run_pure, Result.andThen]
  rw [Lib.cmp_eq]
  rfl

set_option maxRecDepth 100000 in
set_option maxHeartbeats 1000000 in
theorem bytesCompare_any (A B : Option Addr) (l m : List UInt8) (c d : Nat) (w : World) (hA : BytesIn w 0 w.heap.size A l) (hB : BytesIn w 0 w.heap.size B m) :
    Calls Tryz.prog 52 #[.slice A l.length c, .slice B m.length d] w fun e w' => e = .returned (.int .i64 (Lib.compareBytes l m)) ∧ Below w.heap.size w w' := by
  have HR := Lib.hid (run_cmp_bytes (P := Tryz.prog) hA hB c d)
  clear hA hB
  go_enter Tryz.func52, Tryz.ntmps52
  go_wp2
  rw [run_callFunc_extern Tryz.func80 (by kernel_rfl) (by kernel_rfl) (by kernel_rfl) (e := Extern.BytealgCompare.compare) (by kernel_rfl), HR.out]
  simp only [Result.andThen]
  rw [Oper.upon_value]
  go_wp2
  go_ret
  exact ⟨rfl, Below.refl _ _⟩

end Go.Proofs.YtepkicgnhjaokaaGreatDoor

namespace Go.Proofs.YtepkicgnhjaokaaGreatDoor
open Go.RowKit Go.Maps

set_option maxRecDepth 100000 in
set_option maxHeartbeats 4000000 in
theorem implTreeCmp_any (AV : Option Addr) (vec : List Int) (cv : Nat) (A : Option Addr) (es : List En) (c : Nat) (AV2 : Option Addr) (vec2 : List Int) (cv2 : Nat) (A2 : Option Addr) (es2 : List En) (c2 : Nat) (w : World) (hV : IntsIn w 0 w.heap.size AV vec) (hA : EnsIn w 0 w.heap.size A es) (hv : vec.length ≤ 1048576) (hn : es.length ≤ 1048576) (hbk : ebulk es ≤ 1048576) (hV2 : IntsIn w 0 w.heap.size AV2 vec2) (hA2 : EnsIn w 0 w.heap.size A2 es2) (hv2 : vec2.length ≤ 1048576) (hn2 : es2.length ≤ 1048576) (hbk2 : ebulk es2 ≤ 1048576) :
    Calls Tryz.prog 22 #[.agg #[.slice AV vec.length cv, .slice A es.length c], .agg #[.slice AV2 vec2.length cv2, .slice A2 es2.length c2]] w fun e w' => e = .returned (.int .i64 (tcI vec es vec2 es2)) ∧ Below w.heap.size w w' := by
  have HTw := Lib.hid (fun W (hX : Below w.heap.size w W) => readTrees_any AV vec cv A es c AV2 vec2 cv2 A2 es2 c2 W ((hV.keep fun p _ hp => hX.cell hp).mono hX.size) ((hA.below hX).mono hX.size) hv hn hbk ((hV2.keep fun p _ hp => hX.cell hp).mono hX.size) ((hA2.below hX).mono hX.size) hv2 hn2 hbk2)
  have HI := Lib.hid (show tcI vec es vec2 es2 = if treeB vec es && treeB vec2 es2 then Lib.compareBytes (tbV vec es) (tbV vec2 es2) else 0 from rfl)
  obtain ⟨I, hI⟩ : ∃ I, I = tcI vec es vec2 es2 := ⟨_, rfl⟩
  rw [← hI] at HI ⊢
  clear hI hV hA hV2 hA2
  go_enter Tryz.func22, Tryz.ntmps22
  go_wp2_with fail
  obtain ⟨W1_0, hW1_0⟩ : ∃ x, x = w.alloc (.cells #[.slice AV vec.length cv, .slice A es.length c] 26) := ⟨_, rfl⟩
  obtain ⟨W1_1, hW1_1⟩ : ∃ x, x = W1_0.alloc (.cells #[.slice AV2 vec2.length cv2, .slice A2 es2.length c2] 26) := ⟨_, rfl⟩
  have hZ1_0 : W1_0.heap.size = w.heap.size + 1 := by rw [hW1_0]; simp
  have hZ1_1 : W1_1.heap.size = w.heap.size + 2 := by rw [hW1_1]; simp [hZ1_0]
  have hx0 : Bx W1_0 (w.heap.size) [.slice AV vec.length cv, .slice A es.length c] := by rw [hW1_0]; exact Bx.new' _ _ _ _ rfl
  replace hx0 : Bx W1_1 (w.heap.size) [.slice AV vec.length cv, .slice A es.length c] := by rw [hW1_1]; exact hx0.alloc (by omega) _
  have hx1 : Bx W1_1 (w.heap.size + 1) [.slice AV2 vec2.length cv2, .slice A2 es2.length c2] := by rw [hW1_1, ← hZ1_0]; exact Bx.new' _ _ _ _ rfl
  have hb0 : Below w.heap.size w W1_1 := by rw [hW1_1, hW1_0]; exact (((Below.refl _ _).alloc (by first | exact Nat.le_refl _ | (simp; done) | (simp; omega)) _).alloc (by first | exact Nat.le_refl _ | (simp; done) | (simp; omega)) _)
  have hlt : w.heap.size + 1 < W1_1.heap.size := by omega
  rw [← hW1_0, ← hW1_1]
  clear hW1_0 hZ1_0 hW1_1 hZ1_1
  have z_2 := hb0.size
  have Hbel_3 := Lib.hid (hb0)
  have HP_4 := Lib.hid (hx0)
  have HQ_5 := Lib.hid (hx1)
  clear hb0 hx0 hx1
  have hl_6 := hlt
  clear hlt
  refine (HTw.out W1_1 Hbel_3.out).mono ?_
  rintro e w1 ⟨x0, x1, x2, x3, E1, n1, k1, y0, y1, y2, y3, E2, n2, k2, rfl, htr, hur, hb⟩
  have z_7 := hb.size
  have Hbel_8 := Lib.hid (Hbel_3.out.trans (hb.mono (by omega)))
  clear Hbel_3 HP_4 HQ_5
  have Htr0_9 := Lib.hid (show (treeB vec es = true → vec = [x0, x1, x2, x3] ∧ n1 = es.length ∧ EvsIn w1 0 w1.heap.size E1 es) from fun h => ⟨(htr h).1, (htr h).2.1, (htr h).2.2.low (Nat.zero_le _)⟩)
  have Htr1_10 := Lib.hid (show (treeB vec2 es2 = true → vec2 = [y0, y1, y2, y3] ∧ n2 = es2.length ∧ EvsIn w1 0 w1.heap.size E2 es2) from fun h => ⟨(hur h).1, (hur h).2.1, (hur h).2.2.low (Nat.zero_le _)⟩)
  clear hb
  clear HTw htr hur
  obtain ⟨b, hb⟩ : ∃ b, b = (treeB vec es && treeB vec2 es2) := ⟨_, rfl⟩
  have HBb := Lib.hid hb
  rw [← hb] at HI ⊢
  clear hb
  cases b with
  | false =>
    have HF := Lib.hid (show I = 0 by rw [HI.out]; rfl)
    go_wp2_with fail
    go_ret
    exact ⟨ret_int (a := 0) HF.out.symm, by repeat first | exact Hbel_8.out | (refine Below.alloc ?_ (by first | omega | (simp; omega)) _)⟩
  | true =>
  have hand : treeB vec es = true ∧ treeB vec2 es2 = true := by have h := HBb.out.symm; simpa using h
  obtain ⟨hvx, hnx, hex⟩ := Htr0_9.out hand.1
  obtain ⟨hvy, hny, hey⟩ := Htr1_10.out hand.2
  have l12 := treeB_len3 hand.1
  have m12 := treeB_len3 hand.2
  subst hvx hvy hnx hny
  obtain ⟨T, hT⟩ : ∃ T, T = tbV [x0, x1, x2, x3] es := ⟨_, rfl⟩
  obtain ⟨U, hU⟩ : ∃ T, T = tbV [y0, y1, y2, y3] es2 := ⟨_, rfl⟩
  have HF := Lib.hid (show I = Lib.compareBytes T U by rw [HI.out, hT, hU]; rfl)
  have HEx := Lib.hid hex
  have HEy := Lib.hid hey
  clear hex hey hand HBb HI
  clear Htr0_9
  clear Htr1_10
  go_wp2_with fail
  obtain ⟨W11_0, hW11_0⟩ : ∃ x, x = w1.alloc (.cells #[.int .i64 x0, .int .i64 x1, .int .i64 x2, .int .i64 x3, .slice E1 es.length k1] 66) := ⟨_, rfl⟩
  obtain ⟨W11_1, hW11_1⟩ : ∃ x, x = W11_0.alloc (.cells #[.int .i64 y0, .int .i64 y1, .int .i64 y2, .int .i64 y3, .slice E2 es2.length k2] 66) := ⟨_, rfl⟩
  have hZ11_0 : W11_0.heap.size = w1.heap.size + 1 := by rw [hW11_0]; simp
  have hZ11_1 : W11_1.heap.size = w1.heap.size + 2 := by rw [hW11_1]; simp [hZ11_0]
  have hx0 : Bx W11_0 (w1.heap.size) [.int .i64 x0, .int .i64 x1, .int .i64 x2, .int .i64 x3, .slice E1 es.length k1] := by rw [hW11_0]; exact Bx.new' _ _ _ _ rfl
  replace hx0 : Bx W11_1 (w1.heap.size) [.int .i64 x0, .int .i64 x1, .int .i64 x2, .int .i64 x3, .slice E1 es.length k1] := by rw [hW11_1]; exact hx0.alloc (by omega) _
  have hx1 : Bx W11_1 (w1.heap.size + 1) [.int .i64 y0, .int .i64 y1, .int .i64 y2, .int .i64 y3, .slice E2 es2.length k2] := by rw [hW11_1, ← hZ11_0]; exact Bx.new' _ _ _ _ rfl
  have hb0 : Below w1.heap.size w1 W11_1 := by rw [hW11_1, hW11_0]; exact (((Below.refl _ _).alloc (by first | exact Nat.le_refl _ | (simp; done) | (simp; omega)) _).alloc (by first | exact Nat.le_refl _ | (simp; done) | (simp; omega)) _)
  have hlt : w1.heap.size + 1 < W11_1.heap.size := by omega
  rw [← hW11_0, ← hW11_1]
  clear hW11_0 hZ11_0 hW11_1 hZ11_1
  have z_12 := hb0.size
  have Hbel_13 := Lib.hid (Hbel_8.out.trans (hb0.mono (by omega)))
  have Hex_14 := Lib.hid ((HEx.out.below hb0).mono hb0.size)
  have Hey_15 := Lib.hid ((HEy.out.below hb0).mono hb0.size)
  clear Hbel_8 HEx HEy
  have HX_16 := Lib.hid (hx0)
  have HY_17 := Lib.hid (hx1)
  clear hb0 hx0 hx1
  have hl_18 := hlt
  clear hlt
  have he1 := fun (X : World) (hX : Below W11_1.heap.size W11_1 X) => encoded_any x0 x1 x2 x3 E1 es k1 X ((Hex_14.out.below hX).mono hX.size) (by omega) hbk
  have he2 := fun (X : World) (hX : Below W11_1.heap.size W11_1 X) => encoded_any y0 y1 y2 y3 E2 es2 k2 X ((Hey_15.out.below hX).mono hX.size) (by omega) hbk2
  rw [← hT] at he1
  rw [← hU] at he2
  have HE1 := Lib.hid he1
  have HE2 := Lib.hid he2
  clear he1 he2 hT hU
  have HCell := Lib.hid (show ∀ X, Below W11_1.heap.size W11_1 X → X.cell? ⟨w1.heap.size, 0, none⟩ = some (.int .i64 x0) ∧ X.cell? ⟨w1.heap.size, 1, none⟩ = some (.int .i64 x1) ∧ X.cell? ⟨w1.heap.size, 2, none⟩ = some (.int .i64 x2) ∧ X.cell? ⟨w1.heap.size, 3, none⟩ = some (.int .i64 x3) ∧ X.cell? ⟨w1.heap.size, 4, none⟩ = some (.slice E1 es.length k1) ∧ X.cell? ⟨w1.heap.size + 1, 0, none⟩ = some (.int .i64 y0) ∧ X.cell? ⟨w1.heap.size + 1, 1, none⟩ = some (.int .i64 y1) ∧ X.cell? ⟨w1.heap.size + 1, 2, none⟩ = some (.int .i64 y2) ∧ X.cell? ⟨w1.heap.size + 1, 3, none⟩ = some (.int .i64 y3) ∧ X.cell? ⟨w1.heap.size + 1, 4, none⟩ = some (.slice E2 es2.length k2) from fun X hX => ⟨(hX.cell (p := ⟨w1.heap.size, 0, none⟩) (by show w1.heap.size < _; omega)).trans (HX_16.out 0 (by simp)), (hX.cell (p := ⟨w1.heap.size, 1, none⟩) (by show w1.heap.size < _; omega)).trans (HX_16.out 1 (by simp)), (hX.cell (p := ⟨w1.heap.size, 2, none⟩) (by show w1.heap.size < _; omega)).trans (HX_16.out 2 (by simp)), (hX.cell (p := ⟨w1.heap.size, 3, none⟩) (by show w1.heap.size < _; omega)).trans (HX_16.out 3 (by simp)), (hX.cell (p := ⟨w1.heap.size, 4, none⟩) (by show w1.heap.size < _; omega)).trans (HX_16.out 4 (by simp)), (hX.cell (p := ⟨w1.heap.size + 1, 0, none⟩) (by show w1.heap.size + 1 < _; omega)).trans (HY_17.out 0 (by simp)), (hX.cell (p := ⟨w1.heap.size + 1, 1, none⟩) (by show w1.heap.size + 1 < _; omega)).trans (HY_17.out 1 (by simp)), (hX.cell (p := ⟨w1.heap.size + 1, 2, none⟩) (by show w1.heap.size + 1 < _; omega)).trans (HY_17.out 2 (by simp)), (hX.cell (p := ⟨w1.heap.size + 1, 3, none⟩) (by show w1.heap.size + 1 < _; omega)).trans (HY_17.out 3 (by simp)), (hX.cell (p := ⟨w1.heap.size + 1, 4, none⟩) (by show w1.heap.size + 1 < _; omega)).trans (HY_17.out 4 (by simp))⟩)
  have lX : w1.heap.size < W11_1.heap.size := by omega
  have lY : w1.heap.size + 1 < W11_1.heap.size := by omega
  obtain ⟨s0, s1, s2, s3, s4, s5, s6, s7, s8, s9⟩ := HCell.out W11_1 (Below.refl _ _)
  go_region_held3 (fun X => X.cell? ⟨w1.heap.size, 0, none⟩ = some (.int .i64 x0) ∧ X.cell? ⟨w1.heap.size, 1, none⟩ = some (.int .i64 x1) ∧ X.cell? ⟨w1.heap.size, 2, none⟩ = some (.int .i64 x2) ∧ X.cell? ⟨w1.heap.size, 3, none⟩ = some (.int .i64 x3) ∧ X.cell? ⟨w1.heap.size, 4, none⟩ = some (.slice E1 es.length k1) ∧ X.cell? ⟨w1.heap.size + 1, 0, none⟩ = some (.int .i64 y0) ∧ X.cell? ⟨w1.heap.size + 1, 1, none⟩ = some (.int .i64 y1) ∧ X.cell? ⟨w1.heap.size + 1, 2, none⟩ = some (.int .i64 y2) ∧ X.cell? ⟨w1.heap.size + 1, 3, none⟩ = some (.int .i64 y3) ∧ X.cell? ⟨w1.heap.size + 1, 4, none⟩ = some (.slice E2 es2.length k2))
    (first | with_reducible exact ⟨s0, s1, s2, s3, s4, s5, s6, s7, s8, s9⟩ | exact ⟨s0, s1, s2, s3, s4, s5, s6, s7, s8, s9⟩ | with_reducible exact ⟨t0, t1, t2, t3, t4, t5, t6, t7, t8, t9⟩ | with_reducible exact ⟨v0, v1, v2, v3, v4, v5, v6, v7, v8, v9⟩ | with_reducible exact ⟨z0, z1, z2, z3, z4, z5, z6, z7, z8, z9⟩)
    (first
      | (go_at_call 53
         refine (HE1.out _ (Below.refl _ _).drew).mono ?_
         clear HE1
         rintro r u1 ⟨v1, rfl, hr1, hy1⟩
         obtain ⟨A1, c1, rfl, hfr1⟩ := hr1.frT
         have HU1 := Lib.hid (show Below W11_1.heap.size W11_1 u1 from (Below.refl _ _).drew.trans hy1)
         have HF1 := Lib.hid (hfr1.bytes.low (Nat.zero_le _) : BytesIn u1 0 u1.heap.size A1 T)
         obtain ⟨t0, t1, t2, t3, t4, t5, t6, t7, t8, t9⟩ := HCell.out u1 HU1.out
         clear hr1 hy1 hfr1)
      | (go_at_call 53
         refine (HE2.out _ HU1.out).mono ?_
         clear HE2
         rintro r u2 ⟨v2, rfl, hr2, hy2⟩
         obtain ⟨A3, c3, rfl, hfr2⟩ := hr2.frT
         have HU2 := Lib.hid (show Below W11_1.heap.size W11_1 u2 from HU1.out.trans (hy2.mono HU1.out.size))
         have HF1b := Lib.hid ((HF1.out.keep fun p _ hp => hy2.cell hp).mono hy2.size : BytesIn u2 0 u2.heap.size A1 T)
         have HF2 := Lib.hid (hfr2.bytes.low (Nat.zero_le _) : BytesIn u2 0 u2.heap.size A3 U)
         obtain ⟨v0, v1, v2, v3, v4, v5, v6, v7, v8, v9⟩ := HCell.out u2 HU2.out
         clear hr2 hy2 hfr2)
      | (go_at_call 52
         refine (bytesCompare_any A1 A3 T U c1 c3 u2 HF1b.out HF2.out).mono ?_
         rintro r u3 ⟨rfl, hy3⟩
         have HU3 := Lib.hid (show Below W11_1.heap.size W11_1 u3 from HU2.out.trans (hy3.mono HU2.out.size))
         obtain ⟨z0, z1, z2, z3, z4, z5, z6, z7, z8, z9⟩ := HCell.out u3 HU3.out
         clear hy3))
  have HB3 := Lib.hid (Hbel_13.out.trans (HU3.out.mono (by omega)))
  clear HCell HU1 HU2 HU3 HF1 HF1b HF2 s0 s1 s2 s3 s4 s5 s6 s7 s8 s9 t0 t1 t2 t3 t4 t5 t6 t7 t8 t9 v0 v1 v2 v3 v4 v5 v6 v7 v8 v9 z0 z1 z2 z3 z4 z5 z6 z7 z8 z9
  go_wp2_with fail
  go_ret
  exact ⟨ret_int HF.out.symm, HB3.out⟩


end Go.Proofs.YtepkicgnhjaokaaGreatDoor

namespace Go.Proofs.YtepkicgnhjaokaaGreatDoor
open Go.RowKit Go.Maps

theorem lo8_inj {a b : Int} (h : lo8 a = lo8 b) (ha : 0 ≤ a ∧ a < 256) (hb : 0 ≤ b ∧ b < 256) : a = b := by
  have h1 := lo8_val a
  have h2 := lo8_val b
  rw [h] at h1
  omega
theorem b2_inj {a b : Int} (h0 : lo8 (a / 256) = lo8 (b / 256)) (h1 : lo8 a = lo8 b) (ha : 0 ≤ a ∧ a ≤ 1000) (hb : 0 ≤ b ∧ b ≤ 1000) : a = b := by
  have k0 := lo8_inj h0 (by omega) (by omega)
  have k1 := lo8_val a
  have k2 := lo8_val b
  rw [h1] at k1
  omega
/-- What its bytes can hold. -/
structure Eb (e : En) : Prop where
  nm : e.name.length ≤ 24
  val : 0 ≤ e.val ∧ e.val ≤ 1000
  dev : 0 ≤ e.dev ∧ e.dev < 4
  num : 0 ≤ e.num ∧ e.num ≤ 1000
theorem eb_of {vec : List Int} {es : List En} (h : treeB vec es = true) : ∀ e ∈ es, Eb e := by
  intro e he
  have hf := tok_fit (tree_parts h).2.2 e he
  have hd := tree_dev h e he
  have hk := known_of h he
  obtain ⟨a, b, c, d, rfl⟩ := treeB_four h
  have hv : vecB [a, b, c, d] = true := (tree_parts h).1
  have hb : ∀ j : Nat, [a, b, c, d].getD j 0 ≤ 1000 := fun j => by
    unfold vecB at hv
    simp only [Bool.and_eq_true, List.all_eq_true, decide_eq_true_eq] at hv
    rw [List.getD_eq_getElem?_getD]
    cases hj : [a, b, c, d][j]? with
    | none => simp
    | some x => simpa using (hv.2 x (List.mem_of_getElem? hj)).2
  unfold Kn at hk
  unfold fitB at hf
  simp only [Bool.and_eq_true, decide_eq_true_eq] at hf
  have := hb e.dev.toNat
  exact ⟨name_24 (tree_names h e he), ⟨hf.1.1.1.1, by have := hf.1.1.1.2; omega⟩, hd, ⟨by have := hf.1.2; omega, by omega⟩⟩
theorem ebV_inj {e f : En} {xs ys : List UInt8} (he : Eb e) (hf : Eb f) (h : ebV e ++ xs = ebV f ++ ys) : e = f ∧ xs = ys := by
  obtain ⟨n1, v1, d1, m1⟩ := e
  obtain ⟨n2, v2, d2, m2⟩ := f
  obtain ⟨a1, a2, a3, a4⟩ := he
  obtain ⟨c1, c2, c3, c4⟩ := hf
  simp only at a1 a2 a3 a4 c1 c2 c3 c4
  unfold ebV b2 at h
  simp only [List.cons_append, List.nil_append, List.append_assoc] at h
  injection h with h0 h
  have hl : n1.length = n2.length := by
    have := lo8_inj h0 (by omega) (by omega)
    omega
  obtain ⟨hn, hq⟩ := List.append_inj h hl
  clear h h0
  subst hn
  injection hq with k1 h
  injection h with k2 h
  injection h with k3 h
  injection h with k4 h
  injection h with k5 h
  have e1 := b2_inj k1 k2 a2 c2
  have e2 := lo8_inj k3 (by omega) (by omega)
  have e3 := b2_inj k4 k5 a4 c4
  subst e1
  subst e2
  subst e3
  exact ⟨rfl, h⟩
theorem ebs_inj : ∀ (es fs : List En), (∀ e ∈ es, Eb e) → (∀ e ∈ fs, Eb e) → es.length = fs.length → es.flatMap ebV = fs.flatMap ebV → es = fs
  | [], [], _, _, _, _ => rfl
  | [], _ :: _, _, _, h, _ => by simp at h
  | _ :: _, [], _, _, h, _ => by simp at h
  | e :: es, f :: fs, he, hf, hl, h => by
    rw [List.flatMap_cons, List.flatMap_cons] at h
    obtain ⟨rfl, h2⟩ := ebV_inj (he e (by simp)) (hf f (by simp)) h
    rw [ebs_inj es fs (fun x hx => he x (by simp [hx])) (fun x hx => hf x (by simp [hx])) (by simpa using hl) h2]
theorem tbV_inj {va vb : List Int} {ea eb : List En} (h : treeB va ea = true) (h2 : treeB vb eb = true) (he : tbV va ea = tbV vb eb) : va = vb ∧ ea = eb := by
  have b1 := eb_of h
  have b2' := eb_of h2
  have l1 := treeB_len3 h
  have l2 := treeB_len3 h2
  have v1 := (tree_parts h).1
  have v2 := (tree_parts h2).1
  obtain ⟨a, b, c, d, rfl⟩ := treeB_four h
  obtain ⟨a', b', c', d', rfl⟩ := treeB_four h2
  unfold vecB at v1 v2
  simp only [List.all_cons, List.all_nil, Bool.and_eq_true, decide_eq_true_eq, Bool.and_true] at v1 v2
  unfold tbV b2 at he
  simp only [List.flatMap_cons, List.flatMap_nil, List.cons_append, List.nil_append, List.append_nil] at he
  injection he with k1 he
  injection he with k2 he
  injection he with k3 he
  injection he with k4 he
  injection he with k5 he
  injection he with k6 he
  injection he with k7 he
  injection he with k8 he
  injection he with k9 he
  have e1 := b2_inj k1 k2 (by omega) (by omega)
  have e2 := b2_inj k3 k4 (by omega) (by omega)
  have e3 := b2_inj k5 k6 (by omega) (by omega)
  have e4 := b2_inj k7 k8 (by omega) (by omega)
  have e5 := lo8_inj k9 (by omega) (by omega)
  subst e1
  subst e2
  subst e3
  subst e4
  exact ⟨rfl, ebs_inj ea eb b1 b2' (by omega) he⟩
theorem tc_anti (va : List Int) (ea : List En) (vb : List Int) (eb : List En) : tcI va ea vb eb = - tcI vb eb va ea := by
  unfold tcI
  rw [Bool.and_comm (treeB vb eb)]
  split
  · exact cb_anti _ _
  · rfl
theorem tc_no {va vb : List Int} {ea eb : List En} (h : (treeB va ea && treeB vb eb) = false) : tcI va ea vb eb = 0 := by
  unfold tcI
  rw [h]
  rfl
theorem tc_zero {va vb : List Int} {ea eb : List En} (h : treeB va ea = true) (h2 : treeB vb eb = true) : tcI va ea vb eb = 0 ↔ (va = vb ∧ ea = eb) := by
  unfold tcI
  rw [h, h2]
  simp only [Bool.and_self, if_true]
  constructor
  · exact fun k => tbV_inj h h2 (cb_eq _ _ k)
  · rintro ⟨rfl, rfl⟩
    exact cb_self _

end Go.Proofs.YtepkicgnhjaokaaGreatDoor

namespace Go.Proofs.YtepkicgnhjaokaaGreatDoor
open Go.RowKit Go.Maps

theorem treeOkI_x {w : World} {t : Tt} (h : Tx w t) (ho : treeB t.vec t.es = true) : Calls Tryz.prog 13 #[.agg #[.slice t.AV t.vec.length t.cv, .slice t.A t.es.length t.c]] w fun e w' => e = .returned (.bool true) ∧ Below w.heap.size w w' := by
  have hP := implTreeOk_any t.AV t.vec t.cv t.A t.es t.c w h.v h.e h.lv h.le h.lb
  rw [ho] at hP
  exact hP
theorem treeCmp_x {w : World} {t u : Tt} (h : Tx w t) (k : Tx w u) : Calls Tryz.prog 22 #[.agg #[.slice t.AV t.vec.length t.cv, .slice t.A t.es.length t.c], .agg #[.slice u.AV u.vec.length u.cv, .slice u.A u.es.length u.c]] w fun e w' => e = .returned (.int .i64 (tcI t.vec t.es u.vec u.es)) ∧ Below w.heap.size w w' :=
  implTreeCmp_any t.AV t.vec t.cv t.A t.es t.c u.AV u.vec u.cv u.A u.es u.c w h.v h.e h.lv h.le h.lb k.v k.e k.lv k.le k.lb
theorem tc_same {va vb : List Int} {ea eb : List En} (h : treeB va ea = true) (e : va = vb ∧ ea = eb) : tcI va ea vb eb = 0 := by
  obtain ⟨rfl, rfl⟩ := e
  exact (tc_zero h h).2 ⟨rfl, rfl⟩

theorem up_len4 (a b : List Int) : (upV a b).length ≤ 1048576 := by
  unfold upV
  split <;> simp
theorem sameXU {w : World} {t : Tt} {A : Option Addr} {l : List Int} {c : Nat} (h : Tx w t) (hi : IntsIn w 0 w.heap.size A l) (hl : l.length ≤ 1048576) (e : t.vec = l) : Calls Tryz.prog 15 #[.slice t.AV t.vec.length t.cv, .slice A l.length c] w fun e w' => e = .returned (.bool true) ∧ Below w.heap.size w w' :=
  (sameI_any t.AV A t.vec l t.cv c w h.v hi h.lv hl).mono fun _ _ ⟨h1, h2⟩ => ⟨by rw [h1, decide_eq_true e], h2⟩

theorem cb_three : ∀ (a b : List UInt8), Lib.compareBytes a b = -1 ∨ Lib.compareBytes a b = 0 ∨ Lib.compareBytes a b = 1
  | [], [] => .inr (.inl rfl)
  | [], _ :: _ => .inl rfl
  | _ :: _, [] => .inr (.inr rfl)
  | x :: xs, y :: ys => by
    unfold Lib.compareBytes
    have := cb_three xs ys
    repeat' split
    all_goals first | (left; rfl) | (right; right; rfl) | assumption | omega
theorem tc_three (va : List Int) (ea : List En) (vb : List Int) (eb : List En) : tcI va ea vb eb = -1 ∨ tcI va ea vb eb = 0 ∨ tcI va ea vb eb = 1 := by
  unfold tcI
  split
  · exact cb_three _ _
  · exact .inr (.inl rfl)
theorem treeOkS_x {w : World} {t : Tt} {b : Bool} (h : Tx w t) (hc : t.es.length ≤ t.c) (ho : treeB t.vec t.es = b) : Calls Tryz.prog 24 #[.agg #[.slice t.AV t.vec.length t.cv, .slice t.A t.es.length t.c]] w fun e w' => e = .returned (.bool b) ∧ Below w.heap.size w w' := by
  have hP := specTreeOk_any t.AV t.vec t.cv t.A t.es t.c w h.v h.e h.lv h.le h.lb hc
  rw [ho] at hP
  exact hP
theorem sameX_false {w : World} {t u : Tt} (ht : Tx w t) (hu : Tx w u) (h : ¬ (t.vec = u.vec ∧ t.es = u.es)) : Calls Tryz.prog 18 #[.agg #[.slice t.AV t.vec.length t.cv, .slice t.A t.es.length t.c], .agg #[.slice u.AV u.vec.length u.cv, .slice u.A u.es.length u.c]] w
    fun e w' => e = .returned (.bool false) ∧ Below w.heap.size w w' :=
  (sameX ht hu).mono fun _ _ ⟨h1, h2⟩ => ⟨by rw [h1, ← Bool.decide_and, decide_eq_false h], h2⟩


end Go.Proofs.YtepkicgnhjaokaaGreatDoor
