/-
  Several texts in one: Byt, App, TxtM, TxtI, TxtP.
-/
import Derived.Deep.AppendSrc
import Derived.Laws.IdiomStrings
import Derived.Lib.OthersKept
import Derived.Shelf.Strconv.AppendIntPublic10
import Derived.Test.YtkmoihkpaccbdaaDoorFresh2
import Derived.Lib.ItoaNum
import Derived.Test.YtkmoihkpaccbdaaDoorShelf
import Derived.Test.YtkmoihkpaccbdaaDoorOpen
namespace Go.Proofs.YtkmoihkpaccbdaaDoor
open Go.RowKit

theorem byt_alloc_old (w : World) (o : Obj) {r : Nat} (h : r < w.heap.size) : (w.alloc o).heap[r]? = w.heap[r]? := by
  show (w.heap.push o)[r]? = _
  rw [Array.getElem?_push_lt h, Array.getElem?_eq_getElem h]


/-- v is a row of n bytes of the call's own: its block lies from B on; no cell of it is frozen. -/
def Byt (w : World) (B : Nat) (e : TypeId) (v : Value) (n : Nat) (xs : List Value) : Prop :=
  xs.length = n ∧ ∃ g cap cur fz, v = .slice (some ⟨g, 0, none⟩) n cap ∧ B ≤ g ∧ w.heap[g]? = some (.cells cur e fz) ∧ (fz.2 = 0 ∨ cap ≤ fz.1) ∧ n ≤ cap ∧ cap ≤ maxLen ∧ cur.size = cap ∧ cur.toList.take n = xs

theorem setCells_row (g : Nat) (e : TypeId) (fz : Nat × Nat) : ∀ (vs : List Value) (o : Nat) (cur : Array Value) (w : World), w.heap[g]? = some (.cells cur e fz) → o + vs.length ≤ cur.size →
    ∃ cur', (w.setCells g o vs).heap[g]? = some (.cells cur' e fz) ∧ cur'.size = cur.size ∧ cur'.toList.take (o + vs.length) = cur.toList.take o ++ vs
  | [], o, cur, w, hg, _ => ⟨cur, hg, rfl, by simp⟩
  | v :: r, o, cur, w, hg, hl => by
    simp only [List.length_cons] at hl
    have hg' : (w.setCell ⟨g, o, none⟩ v).heap[g]? = some (.cells (cur.setIfInBounds o v) e fz) := by
      simp [World.setCell, Array.getElem?_modify, hg]
    obtain ⟨cur', h1, h2, h3⟩ := setCells_row g e fz r (o + 1) (cur.setIfInBounds o v) _ hg' (by simp; omega)
    refine ⟨cur', h1, by simpa using h2, ?_⟩
    have hlt : o < cur.toList.length := by simp; omega
    have hset : (cur.toList.set o v).take (o + 1) = cur.toList.take o ++ [v] := by
      rw [List.take_add_one, List.getElem?_set_self hlt]
      simp [List.take_set_of_le]
    rw [List.length_cons, show o + (r.length + 1) = o + 1 + r.length by omega, h3, Array.toList_setIfInBounds, hset, List.append_assoc]
    rfl

theorem setCells_grown (g : Nat) : ∀ (vs : List Value) (o : Nat) (w : World), w.grownBy (w.setCells g o vs) (some g)
  | [], _, _ => ⟨rfl, rfl, rfl, Nat.le_refl _, fun _ _ _ => rfl⟩
  | v :: r, o, w => by
    have h := setCells_grown g r (o + 1) (w.setCell ⟨g, o, none⟩ v)
    have hs : (w.setCell ⟨g, o, none⟩ v).heap.size = w.heap.size := by simp [World.setCell]
    refine ⟨h.os, h.tape, h.output, by rw [← hs]; exact h.size, fun k hk hne => ?_⟩
    rw [World.setCells, h.block k (by omega) hne]
    exact Below.heap_setCell _ _ _ _ (fun e => hne (by rw [e]))

section
variable {w : World} {B : Nat} {e : TypeId} {v : Value} {n : Nat} {xs : List Value}

theorem Byt.lt (h : Byt w B e v n xs) : ∀ k, v.ownBlock = some k → B ≤ k ∧ k < w.heap.size := by
  intro k hk
  obtain ⟨_, g, cap, cur, fz, rfl, hb, hg, _⟩ := h
  simp [Value.ownBlock] at hk
  subst hk
  exact ⟨hb, (Array.getElem?_eq_some_iff.1 hg).1⟩

theorem Byt.kept {w' : World} {row : Option Nat} (h : Byt w B e v n xs) (hg : w.grownBy w' row) (hne : v.ownBlock ≠ row) : Byt w' B e v n xs := by
  obtain ⟨hl, g, cap, cur, fz, rfl, hb, hgg, rest⟩ := h
  refine ⟨hl, g, cap, cur, fz, rfl, hb, ?_, rest⟩
  rw [hg.block g (Array.getElem?_eq_some_iff.1 hgg).1 (by simpa [Value.ownBlock] using hne)]
  exact hgg

theorem Byt.same {w' : World} (h : Byt w B e v n xs) (hw : ∀ g, g < w.heap.size → w'.heap[g]? = w.heap[g]?) : Byt w' B e v n xs := by
  obtain ⟨hl, g, cap, cur, fz, rfl, hb, hgg, rest⟩ := h
  exact ⟨hl, g, cap, cur, fz, rfl, hb, (hw g (Array.getElem?_eq_some_iff.1 hgg).1).trans hgg, rest⟩

theorem Byt.drew (h : Byt w B e v n xs) : Byt w.drew B e v n xs := h
theorem Byt.alloc (h : Byt w B e v n xs) (o : Obj) : Byt (w.alloc o) B e v n xs := h.same fun _ hg => byt_alloc_old w o hg

theorem Byt.kind (h : Byt w B e v n xs) : ∀ g, v.ownBlock = some g → ∃ c fz, w.heap[g]? = some (.cells c e fz) := by
  intro k hk
  obtain ⟨_, g, cap, cur, fz, rfl, hb, hg, _⟩ := h
  simp [Value.ownBlock] at hk
  subst hk
  exact ⟨cur, fz, hg⟩

theorem Byt.cells (h : Byt w B e v n xs) : ∃ g cap, v = .slice (some ⟨g, 0, none⟩) n cap ∧ n ≤ cap ∧ cap ≤ maxLen ∧ B ≤ g ∧ g < w.heap.size ∧ ∀ j u, xs[j]? = some u → w.cell? ((⟨g, 0, none⟩ : Addr).add j) = some u := by
  obtain ⟨hl, g, cap, cur, fz, rfl, hb, hgg, _, hnc, hcm, _, htake⟩ := h
  refine ⟨g, cap, rfl, hnc, hcm, hb, (Array.getElem?_eq_some_iff.1 hgg).1, fun j u hu => ?_⟩
  have hadd : (⟨g, 0, none⟩ : Addr).add j = ⟨g, j, none⟩ := by unfold Addr.add; split <;> simp_all
  rw [hadd, cell_of_row w g j cur e fz hgg]
  rw [← htake, List.getElem?_take] at hu
  split at hu
  · simpa using hu
  · cases hu

/-- A row that a call owns in the elder sense, and that is there. -/
theorem Byt.of (h : w.ownsRow B e 1 v n xs) (hv : v ≠ .slice none 0 0) : Byt w B e v n xs := by
  rcases h.2 with ⟨rfl, _⟩ | ⟨g, cap, cur, rfl, hb, hg, hnc, hcm, hcs, htake⟩
  · exact absurd rfl hv
  · exact ⟨by simpa using h.1, g, cap, cur, (0, 0), rfl, hb, hg, .inl rfl, hnc, hcm, by simpa using hcs, by simpa using htake⟩

/-- What []byte(s) makes. -/
theorem Byt.ofString (w : World) (e : TypeId) (s : ByteArray) (hB : B ≤ w.heap.size) (hs : s.size ≤ maxLen) :
    Byt (w.drew.alloc (.cells (bytesRow s (grownCap w s.size 0 e)) e ((bytesRow s (grownCap w s.size 0 e)).size, (bytesRow s (grownCap w s.size 0 e)).size + 1))) B e
      (.slice (some ⟨w.heap.size, 0, none⟩) s.size (grownCap w s.size 0 e)) s.size (byteCells s) := by
  have hge := grownCap_ge w s.size 0 e
  have hsz : (bytesRow s (grownCap w s.size 0 e)).size = grownCap w s.size 0 e := by
    have hd : s.data.size = s.size := rfl
    simp only [bytesRow, Array.size_append, Array.size_map, Array.size_replicate, hd]
    omega
  refine ⟨byteCells_length s, w.heap.size, grownCap w s.size 0 e, _, _, rfl, hB, heap_alloc_new w.drew _, .inr (by simp [hsz]), hge, grownCap_le_maxLen w s.size 0 e hs, hsz, ?_⟩
  have hl : (byteCells s).length = s.size := byteCells_length s
  have e1 : (bytesRow s (grownCap w s.size 0 e)).toList = byteCells s ++ List.replicate (grownCap w s.size 0 e - s.size) (.int .u8 0) := by simp [bytesRow, byteCells]
  rw [e1, ← hl]
  exact List.take_left

end

section
variable {P : Program} (w : World)

/-- append onto such a row, of whatever: it is such a row again. -/
theorem run_append_byt (B : Nat) (t tx ty e : TypeId) (i : TypeInfo) (ht : P.underlying t = some (.slice e)) (hi : P.info? e = some i) (hz : i.zero = some (.int .u8 0)) (hsize : i.size = 1) (hby : i.bytes = 1)
    (v : Value) (n : Nat) (xs : List Value) (hown : Byt w B e v n xs) (x : Value) (m : Nat) (news : List Value) (hs : Src P 1 tx x m news w) (hlim : n + m ≤ 140737488355328) (hB : B ≤ w.heap.size) :
    ∃ v' w', (Builtin.append_ #[t, tx] ty #[v, x]).run P w = .ok v' w' ∧ Byt w' B e v' (n + m) (xs ++ news) ∧ w.grownBy w' v.ownBlock := by
  have hown0 := hown
  obtain ⟨hl, g, cap, cur, fz, rfl, hb, hgg, hfz, hnc, hcm, hcs, htake⟩ := hown
  obtain ⟨g0, cap0, e0, _, _, _, _, hcell⟩ := hown0.cells
  injection e0 with e0 _ _
  injection e0 with e0
  injection e0 with e0 _ _
  subst e0
  have hm : news.length = m := by simpa using hs.newsLen
  by_cases hroom : n + m ≤ cap
  · have hr := run_append_room_src (P := P) w t tx ty e i ht hi g 0 n cap x m news (by rw [hsize]; exact hs) hroom
      (fun j hj => by
        have : n + j < cur.size := by omega
        simp [World.cell?, hgg, hsize, this])
      (fun j hj => by
        obtain ⟨lo, hi'⟩ := fz
        simp only [World.frozen?, hgg, hsize, Bool.and_eq_false_iff, decide_eq_false_iff_not]
        simp only at hfz
        omega)
    obtain ⟨cur', h1, h2, h3⟩ := setCells_row g e fz news (0 + n * i.size) cur w hgg (by rw [hsize]; omega)
    refine ⟨_, _, hr, ⟨by simp [hl, hm], g, cap, cur', fz, rfl, hb, h1, hfz, hroom, hcm, by omega, ?_⟩, setCells_grown g news _ w⟩
    rw [hsize, hm] at h3
    simpa [htake] using h3
  · have hr := run_append_grow_src (P := P) w t tx ty e i (.int .u8 0) ht hi hz (some ⟨g, 0, none⟩) n cap xs
      (by rw [hsize]; exact run_firstCells_some w.drew 1 n _ n cap xs (by omega) (by simpa using hcell)) x m news (by rw [hsize]; exact hs) (by omega) (by omega) (by rw [hby]; exact growslice_fits (by omega) (by omega))
    have hge := grownCap_ge w (n + m) cap e
    have hcm2 : grownCap w (n + m) cap e ≤ maxLen := grownCap_le_maxLen w (n + m) cap e (by unfold maxLen; omega)
    refine ⟨_, _, hr, ⟨by simp [hl, hm], w.heap.size, _, _, (0, 0), rfl, hB, heap_alloc_new w.drew _, .inl rfl, hge, hcm2, ?_, ?_⟩, ⟨rfl, rfl, rfl, by simp, fun k hk _ => byt_alloc_old w.drew _ hk⟩⟩
    · have hz1 : (Value.int IntKind.u8 0).cells.size = 1 := rfl
      simp only [Array.size_append, List.size_toArray, List.length_append, size_zeroCells, hz1, hl, hm]
      omega
    · have hlen : (xs ++ news).length = n + m := by simp [hl, hm]
      rw [Array.toList_append, ← hlen]
      exact List.take_left

theorem wpList_append_byt {ops : Array Oper} {rest : List Oper} {o : Oper} {a : Act} {Q : Exit → Act → World → Prop} (hgd : o.guard = none) (s x : Operand) (t tx : TypeId)
    (ho : o.op = .call { callee := .builtin .append, args := #[s, x], argTypes := #[t, tx] })
    (B : Nat) (e : TypeId) (i : TypeInfo) (ht : P.underlying t = some (.slice e)) (hi : P.info? e = some i) (hz : i.zero = some (.int .u8 0)) (hsize : i.size = 1) (hby : i.bytes = 1)
    (v : Value) (n : Nat) (xs : List Value) (hv : a.eval s = v) (hown : Byt w B e v n xs) (y : Value) (m : Nat) (news : List Value) (hx : a.eval x = y) (hs : Src P 1 tx y m news w) (hlim : n + m ≤ 140737488355328) (hB : B ≤ w.heap.size)
    (h : ∀ v' w', Byt w' B e v' (n + m) (xs ++ news) → w.grownBy w' v.ownBlock → wpList P ops Q rest (a.put o.dst v') w') : wpList P ops Q (o :: rest) a w := by
  refine wpList_plain hgd fun K hK => ?_
  obtain ⟨v', w', hr, h2, h3⟩ := run_append_byt (P := P) w B t tx o.type e i ht hi hz hsize hby v n xs hown y m news hs hlim hB
  unfold Oper.wp execOp
  simp only [ho, resolve, invoke, builtin, Sem.run_bind, Sem.run_pure, Result.andThen_ok, List.map_toArray, List.map_cons, List.map_nil, hv, hx, hr]
  exact hK _ _ (h v' w' h2 h3)
end

end Go.Proofs.YtkmoihkpaccbdaaDoor

namespace Go.Proofs.YtkmoihkpaccbdaaDoor
open Go.Shelf Go.RowKit Go.Sort Go.Lib
variable {P : Program} {ρ : Ren}

theorem cells_of_digits (l : List UInt8) : Go.byteCells ⟨l.toArray⟩ = Lib.byteCells l := rfl

theorem digits20 (u : Nat) (hu64 : u < 18446744073709551616) : (Lib.decDigits u).length ≤ 20 := by
  rw [Lib.decDigits_length]
  by_cases h : 1 ≤ u
  · have := Lib.numDigits_eq u h hu64
    split at this <;> omega
  · have : u = 0 := by omega
    subst this
    rw [Lib.nDigits_small (by omega)]
    omega

set_option maxHeartbeats 6400000 in
set_option maxRecDepth 100000 in
theorem appUint_small (L : LaysM.n288 P ρ) (B n u : Nat) (hu : u < 100) (sv : Value) (xs : List Value) (w : World) (hown : Byt w B (ρ.t 5) sv n xs) (hB : B ≤ w.heap.size) (hlim : n + 20 ≤ 140737488355328) :
    Calls P (ρ.f 288) #[sv, .int .u64 u, .int .i64 10] w fun e w' => ∃ v', e = .returned v' ∧ Byt w' B (ρ.t 5) v' (n + (Lib.decDigits u).length) (xs ++ Lib.byteCells (Lib.decDigits u)) ∧ Below B w w' := by
  have mixed := L.mixed
  have t5 := L.t5; have a5 := L.a5; have z5 := L.z5; have v5 := L.v5
  have t37 := L.t37; have u37 := run_underlying L.t37; have a37 := L.a37; have z37 := L.z37; have v37 := L.v37
  have t53 := L.t53; have a53 := L.a53; have z53 := L.z53; have v53 := L.v53
  have t3 := L.t3; have a3 := L.a3; have z3 := L.z3; have v3 := L.v3
  have t4 := L.t4; have a4 := L.a4; have z4 := L.z4; have v4 := L.v4
  have t9 := L.t9; have a9 := L.a9; have z9 := L.z9; have v9 := L.v9
  have t171 := L.t171; have a171 := L.a171; have z171 := L.z171; have v171 := L.v171
  have t0 := L.t0; have a0 := L.a0; have z0 := L.z0; have v0 := L.v0
  have t173 := L.t173; have a173 := L.a173; have z173 := L.z173; have v173 := L.v173
  have e283 : ∀ args w, (callFunc (ρ.f 283) args).run P w = .ok (.enter (ρ.f 283) args) w := enters_of L.f283 (by kernel_rfl) rfl
  obtain ⟨i0, hi, hz0, hz1, hz2⟩ := info_parts L.i5
  have hlen : (Lib.decDigits u).length ≤ 20 := digits20 u (by omega)
  have hsz : (⟨(Lib.decDigits u).toArray⟩ : ByteArray).size = (Lib.decDigits u).length := by simp [ByteArray.size]
  go_enter L.f288, Body.n288_ntmps ρ
  go_wp2_with (first
    | (go_at_fn (ρ.f 283); refine (Any.internal_strconv_small { L with } u hu _).mono ?_; rintro e w' ⟨rfl, rfl⟩)
    | (at_builtin; refine wpList_append_byt _ rfl _ _ (ρ.t 37) (ρ.t 9) rfl B (ρ.t 5) i0 L.t37 hi hz0 hz1 hz2 sv n xs rfl hown _ _ _ rfl (Src.ofString _ L.t9 ⟨(Lib.decDigits u).toArray⟩) (by rw [hsz]; omega) hB ?_))
  intro v' w1 hown' hgrow
  go_wp2
  go_ret
  exact ⟨v', rfl, hown', (Below.refl B _).grown hgrow hB (fun k hk => (hown.lt k hk).1)⟩

set_option maxHeartbeats 12800000 in
set_option maxRecDepth 100000 in
theorem appUint_big (L : LaysM.n288 P ρ) (B n u : Nat) (hu : 100 ≤ u) (hu64 : u < 18446744073709551616) (sv : Value) (xs : List Value) (w : World) (hown : Byt w B (ρ.t 5) sv n xs) (hB : B ≤ w.heap.size) (hlim : n + 20 ≤ 140737488355328)
    (htab : Lib.TabIs P w "internal/strconv.uint64pow10" .u64 Lib.pow10Tab) :
    Calls P (ρ.f 288) #[sv, .int .u64 u, .int .i64 10] w fun e w' => ∃ v', e = .returned v' ∧ Byt w' B (ρ.t 5) v' (n + (Lib.decDigits u).length) (xs ++ Lib.byteCells (Lib.decDigits u)) ∧ Below B w w' := by
  have mixed := L.mixed
  have t5 := L.t5; have a5 := L.a5; have z5 := L.z5; have v5 := L.v5
  have t37 := L.t37; have u37 := run_underlying L.t37; have a37 := L.a37; have z37 := L.z37; have v37 := L.v37
  have t53 := L.t53; have a53 := L.a53; have z53 := L.z53; have v53 := L.v53
  have t3 := L.t3; have a3 := L.a3; have z3 := L.z3; have v3 := L.v3
  have t4 := L.t4; have a4 := L.a4; have z4 := L.z4; have v4 := L.v4
  have t9 := L.t9; have a9 := L.a9; have z9 := L.z9; have v9 := L.v9
  have t171 := L.t171; have a171 := L.a171; have z171 := L.z171; have v171 := L.v171
  have t0 := L.t0; have a0 := L.a0; have z0 := L.z0; have v0 := L.v0
  have t173 := L.t173; have a173 := L.a173; have z173 := L.z173; have v173 := L.v173
  have e284 : ∀ args w, (callFunc (ρ.f 284) args).run P w = .ok (.enter (ρ.f 284) args) w := enters_of L.f284 (by kernel_rfl) rfl
  have e285 : ∀ args w, (callFunc (ρ.f 285) args).run P w = .ok (.enter (ρ.f 285) args) w := enters_of L.f285 (by kernel_rfl) rfl
  obtain ⟨i0, hi, hz0, hz1, hz2⟩ := info_parts L.i5
  have hu1 : 1 ≤ u := by omega
  have hd20 := digits20 u hu64
  rw [Lib.decDigits_length] at hd20
  have hal : P.arrayLen (ρ.t 171) = 24 := by simp [Program.arrayLen, L.t171]
  have hsl : ∀ W, (Instr.sliceAt (ρ.t 171) (.pointer (some ⟨w.heap.size, 0, none⟩)) none (some (.int .i64 (Lib.nDigits u : Int))) none).run P W = .ok (.slice (some ⟨w.heap.size, 0, none⟩) (Lib.nDigits u) 24) W := fun W => by
    rw [run_sliceAt_array_h W (ρ.t 171) ⟨w.heap.size, 0, none⟩ (by simp [Program.arrayLen, Program.elem, L.t171]) .i64 (Lib.nDigits u : Int) (by omega) (by rw [hal]; omega)]
    go_simp
  have hH0 := Lib.holds_zero0 w (ρ.t 171) (Lib.nDigits u) (by omega)
  have hfmt := Any.internal_strconv_formatBase10 { L with } w.heap.size 0 24 u (Array.replicate (Lib.nDigits u) 0) (w.alloc (.cells Lib.zeros24 (ρ.t 171))) hH0 (by rw [Array.size_replicate]; exact Lib.lt_pow_nDigits u) hu64 (by rw [Array.size_replicate]; omega)
  rw [Array.size_replicate] at hfmt
  have HH0 := Lib.hid hH0
  have HO := Lib.hid hown
  have iu : (100 : Int) ≤ (u : Int) := by omega
  clear hH0 hal hown
  go_enter L.f288, Body.n288_ntmps ρ
  go_wp2_with (first
    | (go_at_fn (ρ.f 284); refine (Any.internal_strconv_numDigits { L with } u hu1 hu64 _ (Lib.tabIs_alloc htab _)).mono ?_; rintro e w' ⟨rfl, rfl⟩))
  go_at_fn (ρ.f 285)
  refine hfmt.mono ?_
  rintro e w' ⟨rfl, k, v', dk, rfl, hF⟩
  have hcells : ∀ j u', (Lib.byteCells (Lib.decDigits u))[j]? = some u' → ((putRow (fun (b : UInt8) => Value.int .u8 (b.toNat : Int)) (w.alloc (.cells Lib.zeros24 (ρ.t 171))) w.heap.size 0 dk).drewN k).cell? ((⟨w.heap.size, 0, none⟩ : Addr).add j) = some u' := by
    intro j u' hj
    have hjl : j < (Lib.decDigits u).length := by
      have h5 := (List.getElem?_eq_some_iff.1 hj).1
      rwa [Lib.byteCells_length] at h5
    have e5 : (Lib.byteCells (Lib.decDigits u))[j]? = some (Value.int .u8 ((Lib.decDigits u)[j].toNat : Int)) := by simp [Lib.byteCells, hjl]
    rw [e5] at hj
    cases hj
    rw [Lib.row_is_numeral hF j hjl, Lib.add_plain, World.cell?_drewN]
    exact cell?_putRow (fun (b : UInt8) => Value.int .u8 (b.toNat : Int)) _ w.heap.size 0 _ dk HH0.out (by rw [hF.size, Array.size_replicate]) j (by rw [hF.size]; rw [Lib.decDigits_length] at hjl; exact hjl)
  obtain ⟨os, eo⟩ := Lib.fin_at w (.cells Lib.zeros24 (ρ.t 171)) dk k 0
  have hw : ∀ W, W = grow (w.drewN k) os → Byt W B (ρ.t 5) sv n xs ∧ Below B w W ∧ w.heap.size ≤ W.heap.size := by
    rintro W rfl
    exact ⟨HO.out.same fun g hg => Lib.heap_grow_old w k os g hg, Lib.below_grow B w hB k os, Lib.size_grow w k os⟩
  obtain ⟨hown2, hnx2, hsz2⟩ := hw _ eo
  generalize (putRow (fun (b : UInt8) => Value.int .u8 (b.toNat : Int)) (w.alloc (.cells Lib.zeros24 (ρ.t 171))) w.heap.size 0 dk).drewN k = W2 at hcells hown2 hnx2 hsz2 ⊢
  clear eo HH0 hfmt hw
  go_wp2_with (at_builtin; refine wpList_append_byt _ rfl _ _ (ρ.t 37) (ρ.t 37) rfl B (ρ.t 5) i0 L.t37 hi hz0 hz1 hz2 sv n xs rfl hown2 _ _ _ rfl (Src.ofSlice _ L.t37 ⟨w.heap.size, 0, none⟩ (Lib.nDigits u) 24 (Lib.byteCells (Lib.decDigits u)) ?c0 hcells ?c2) ?c3 ?c4 ?_)
  case c0 => rw [Lib.byteCells_length, Lib.decDigits_length, Nat.mul_one]
  case c2 => intro u' hu'; simp only [Lib.byteCells, List.mem_map] at hu'; obtain ⟨b, _, rfl⟩ := hu'; rfl
  case c3 => omega
  case c4 => omega
  intro v2 w3 hown' hgrow
  go_wp2
  go_ret
  rw [← Lib.decDigits_length] at hown'
  exact ⟨v2, rfl, hown', hnx2.grown hgrow (by omega) (fun k hk => (hown2.lt k hk).1)⟩

/-- The two as one. -/
theorem appUint_byt (L : LaysM.n288 P ρ) (B n u : Nat) (hu64 : u < 18446744073709551616) (sv : Value) (xs : List Value) (w : World) (hown : Byt w B (ρ.t 5) sv n xs) (hB : B ≤ w.heap.size) (hlim : n + 20 ≤ 140737488355328)
    (htab : Lib.TabIs P w "internal/strconv.uint64pow10" .u64 Lib.pow10Tab) :
    Calls P (ρ.f 288) #[sv, .int .u64 u, .int .i64 10] w fun e w' => ∃ v', e = .returned v' ∧ Byt w' B (ρ.t 5) v' (n + (Lib.decDigits u).length) (xs ++ Lib.byteCells (Lib.decDigits u)) ∧ Below B w w' := by
  by_cases h : u < 100
  · exact appUint_small { L with } B n u h sv xs w hown hB hlim
  · exact appUint_big { L with } B n u (by omega) hu64 sv xs w hown hB hlim htab

set_option maxHeartbeats 6400000 in
set_option maxRecDepth 100000 in
/-- internal/strconv.AppendInt of a number that is none below zero. -/
theorem appIntIn_byt (L : LaysM.n249 P ρ) (B n u : Nat) (hu : u < 9223372036854775808) (sv : Value) (xs : List Value) (w : World) (hown : Byt w B (ρ.t 5) sv n xs) (hB : B ≤ w.heap.size) (hlim : n + 20 ≤ 140737488355328)
    (htab : Lib.TabIs P w "internal/strconv.uint64pow10" .u64 Lib.pow10Tab) :
    Calls P (ρ.f 249) #[sv, .int .i64 (u : Int), .int .i64 10] w fun e w' => ∃ v', e = .returned v' ∧ Byt w' B (ρ.t 5) v' (n + (Lib.decDigits u).length) (xs ++ Lib.byteCells (Lib.decDigits u)) ∧ Below B w w' := by
  have mixed := L.mixed
  have t5 := L.t5; have a5 := L.a5; have z5 := L.z5; have v5 := L.v5
  have t37 := L.t37; have u37 := run_underlying L.t37; have a37 := L.a37; have z37 := L.z37; have v37 := L.v37
  have t2 := L.t2; have a2 := L.a2; have z2 := L.z2; have v2 := L.v2
  have t3 := L.t3; have a3 := L.a3; have z3 := L.z3; have v3 := L.v3
  have t53 := L.t53; have a53 := L.a53; have z53 := L.z53; have v53 := L.v53
  have t4 := L.t4; have a4 := L.a4; have z4 := L.z4; have v4 := L.v4
  have e288 : ∀ args w, (callFunc (ρ.f 288) args).run P w = .ok (.enter (ρ.f 288) args) w := enters_of L.f288 (by kernel_rfl) rfl
  have HO := Lib.hid hown
  clear hown
  go_enter L.f249, Body.n249_ntmps ρ
  go_wp2_with (go_at_fn (ρ.f 288); refine (appUint_byt { L with } B n u (by omega) sv xs w HO.out hB hlim htab).mono ?_; rintro e w2 ⟨v2, rfl, hown2, hnx2⟩)
  go_wp2
  first | go_ret | go_ret2
  exact ⟨v2, rfl, hown2, hnx2⟩

set_option maxRecDepth 100000 in
/-- strconv.AppendInt of a number that is none below zero. -/
theorem appInt_byt (L : LaysM.n176 P ρ) (B n u : Nat) (hu : u < 9223372036854775808) (sv : Value) (xs : List Value) (w : World) (hown : Byt w B (ρ.t 5) sv n xs) (hB : B ≤ w.heap.size) (hlim : n + 20 ≤ 140737488355328)
    (htab : Lib.TabIs P w "internal/strconv.uint64pow10" .u64 Lib.pow10Tab) :
    Calls P (ρ.f 176) #[sv, .int .i64 (u : Int), .int .i64 10] w fun e w' => ∃ v', e = .returned v' ∧ Byt w' B (ρ.t 5) v' (n + (Lib.decDigits u).length) (xs ++ Lib.byteCells (Lib.decDigits u)) ∧ Below B w w' := by
  have mixed := L.mixed
  have t5 := L.t5; have a5 := L.a5; have z5 := L.z5; have v5 := L.v5
  have t37 := L.t37; have u37 := run_underlying L.t37; have a37 := L.a37; have z37 := L.z37; have v37 := L.v37
  have t2 := L.t2; have a2 := L.a2; have z2 := L.z2; have v2 := L.v2
  have t3 := L.t3; have a3 := L.a3; have z3 := L.z3; have v3 := L.v3
  have e249 : ∀ args w, (callFunc (ρ.f 249) args).run P w = .ok (.enter (ρ.f 249) args) w := enters_of L.f249 (by kernel_rfl) rfl
  have HO := Lib.hid hown
  clear hown
  go_enter L.f176, Body.n176_ntmps ρ
  go_wp2_with (go_at_fn (ρ.f 249); refine (appIntIn_byt { L with } B n u hu sv xs w HO.out hB hlim htab).mono ?_; rintro e w2 ⟨v2, rfl, hown2, hnx2⟩)
  go_wp2
  go_ret
  exact ⟨v2, rfl, hown2, hnx2⟩

end Go.Proofs.YtkmoihkpaccbdaaDoor

namespace Go.Proofs.YtkmoihkpaccbdaaDoor
open Go.RowKit Go.Maps

/-- A new row of bytes is handed back. -/
def NewByt (l : List UInt8) (w : World) (e : Ending) (w' : World) : Prop :=
  ∃ v, e = .returned v ∧ Byt w' w.heap.size 5 v l.length (Lib.byteCells l) ∧ Below w.heap.size w w'

theorem byt_one {W : World} {T : TypeId} {k : Value} (B : Nat) (hB : B ≤ W.heap.size) : Byt (W.alloc (.cells #[k] T)) B T (.slice (some ⟨W.heap.size, 0, none⟩) 1 1) 1 [k] :=
  ⟨rfl, W.heap.size, 1, #[k], (0, 0), rfl, hB, heap_alloc_new W _, .inl rfl, Nat.le_refl _, by unfold maxLen; omega, rfl, rfl⟩

theorem digit_val (n : Nat) (h : n < 10) : (Value.int .u8 ((UInt8.ofNat (48 + n)).toNat : Int)) = Value.int .u8 (48 + (n : Int)) := by
  have : (UInt8.ofNat (48 + n)).toNat = 48 + n := by simp; omega
  rw [this]
  simp

set_option maxRecDepth 100000 in
set_option maxHeartbeats 1000000 in
theorem l1digits_any : ∀ (n : Nat) (_ : n < 9223372036854775808) (w : World), Calls Tryd.prog 30 #[.int .i64 (n : Int)] w (NewByt (Lib.decDigits n) w) := by
  intro n
  induction n using Nat.strongRecOn with
  | ind n ih =>
  intro hn w
  have IH := Lib.hid ih
  clear ih
  obtain ⟨i0, hi, hz0, hz1, hz2⟩ := info_parts (show (Tryd.prog.info? 5).map (fun i => (i.zero, i.size, i.bytes)) = some (some (.int .u8 0), 1, 1) by kernel_rfl)
  by_cases h10 : n < 10
  · have hd := Lib.hid (show Lib.decDigits n = [UInt8.ofNat (48 + n)] by rw [Lib.decDigits, dif_pos h10])
    have hI : (n : Int) < 10 := by omega
    go_enter Tryd.func30, Tryd.ntmps30
    go_wp2_with fail
    go_ret
    refine ⟨.slice (some ⟨w.heap.size, 0, none⟩) 1 1, rfl, ?_, (Below.refl _ _).alloc (Nat.le_refl _) _⟩
    have hv := digit_val n h10
    rw [hd.out]
    have := byt_one (W := w) (T := 5) (k := .int .u8 (48 + (n : Int))) w.heap.size (Nat.le_refl _)
    rw [← hv] at this ⊢
    exact this
  · have hI : ¬ (n : Int) < 10 := by omega
    have hd := Lib.hid (show Lib.decDigits n = Lib.decDigits (n / 10) ++ [UInt8.ofNat (48 + n % 10)] by rw [Lib.decDigits, dif_neg h10])
    clear h10
    go_enter Tryd.func30, Tryd.ntmps30
    go_wp2_with fail
    have hc := IH.out (n / 10) (by omega) (by omega) w
    rw [show ((n / 10 : Nat) : Int) = (n : Int) / 10 by omega] at hc
    refine hc.mono ?_
    rintro e w1 ⟨v1, rfl, hb1, hbel1⟩
    have HB1 := Lib.hid hb1
    have hs1 := hbel1.size
    clear hb1
    have hl20 := digits20 (n / 10) (by omega)
    go_wp2_with (at_builtin; refine wpList_append_byt _ rfl _ _ 22 22 rfl w.heap.size 5 i0 Tryd.underlying22 hi hz0 hz1 hz2 v1 _ _ rfl (HB1.out.alloc _) _ 1 [.int .u8 (48 + (n : Int) % 10)] rfl (Src.ofSlice _ Tryd.underlying22 ⟨w1.heap.size, 0, none⟩ 1 1 _ rfl ?c1 ?c2) ?c3 ?c4 ?_)
    case c1 => intro j u hj; match j, hj with | 0, hj => simp at hj; subst hj; simp [Addr.add]
    case c2 => intro u hu; simp at hu; subst hu; rfl
    case c3 => omega
    case c4 => simp; omega
    intro v2 w2 hb2 hg2
    go_wp2
    go_ret
    have hv := digit_val (n % 10) (by omega)
    rw [show ((n % 10 : Nat) : Int) = (n : Int) % 10 by omega] at hv
    refine ⟨v2, rfl, ?_, (hbel1.alloc hs1 _).grown hg2 (by simp; omega) (fun k hk => (HB1.out.lt k hk).1)⟩
    have hcat : Lib.byteCells (Lib.decDigits (n / 10) ++ [UInt8.ofNat (48 + n % 10)]) = Lib.byteCells (Lib.decDigits (n / 10)) ++ [.int .u8 (48 + (n : Int) % 10)] := by
      rw [← hv]
      simp only [Lib.byteCells, List.map_append, List.map_cons, List.map_nil]
    rw [hd.out, hcat, List.length_append]
    exact hb2

end Go.Proofs.YtkmoihkpaccbdaaDoor

namespace Go.Proofs.YtkmoihkpaccbdaaDoor
open Go.RowKit Go.Maps

/-- ' ' and the digits, of each number. -/
def numsV : List Nat → List UInt8
  | [] => []
  | n :: r => 32 :: Lib.decDigits n ++ numsV r

theorem numsV_append : ∀ (l m : List Nat), numsV (l ++ m) = numsV l ++ numsV m
  | [], _ => rfl
  | n :: r, m => by simp only [List.cons_append, numsV, numsV_append r m, List.append_assoc]

theorem numsV_length : ∀ (l : List Nat) (_ : ∀ n ∈ l, n < 9223372036854775808), (numsV l).length ≤ 21 * l.length
  | [], _ => Nat.le_refl _
  | n :: r, h => by
    have h1 := digits20 n (by have := h n (by simp); omega)
    have h2 := numsV_length r (fun m hm => h m (by simp [hm]))
    simp only [numsV, List.length_append, List.length_cons]
    omega

theorem numsV_take (l : List Nat) (k : Nat) (hk : k < l.length) : numsV (l.take (k + 1)) = numsV (l.take k) ++ [32] ++ Lib.decDigits l[k] := by
  rw [List.take_succ_eq_append_getElem hk, numsV_append]
  simp [numsV]

theorem bcells_append (a b : List UInt8) : Lib.byteCells (a ++ b) = Lib.byteCells a ++ Lib.byteCells b := by simp [Lib.byteCells]

/-- strconv.AppendInt, here. -/
theorem appInt_here (B n u : Nat) (hu : u < 9223372036854775808) (sv : Value) (xs : List Value) (w : World) (hown : Byt w B 5 sv n xs) (hB : B ≤ w.heap.size) (hlim : n + 20 ≤ 140737488355328)
    (htab : Lib.TabIs Tryd.prog w "internal/strconv.uint64pow10" .u64 Lib.pow10Tab) :
    Calls Tryd.prog 39 #[sv, .int .i64 (u : Int), .int .i64 10] w fun e w' => ∃ v', e = .returned v' ∧ Byt w' B 5 v' (n + (Lib.decDigits u).length) (xs ++ Lib.byteCells (Lib.decDigits u)) ∧ Below B w w' :=
  appInt_byt laysM176 B n u hu sv xs w hown hB hlim htab

set_option maxRecDepth 100000 in
set_option maxHeartbeats 2000000 in
theorem word_any (s : ByteArray) (hs : s.size ≤ 100) (l : List Nat) (hl : l.length ≤ 8) (h63 : ∀ n ∈ l, n < 9223372036854775808) (q cap : Nat) (w : World) (hq : q < w.heap.size)
    (hc : ∀ j (hj : j < l.length), w.cell? ⟨q, j, none⟩ = some (.int .i64 (l[j] : Int))) (htab : Lib.TabIs Tryd.prog w "internal/strconv.uint64pow10" .u64 Lib.pow10Tab) :
    Calls Tryd.prog 23 #[.string s, .slice (some ⟨q, 0, none⟩) l.length cap] w fun e w' => ∃ v, e = .returned v ∧ Byt w' w.heap.size 5 v (s.size + (numsV l).length) (byteCells s ++ Lib.byteCells (numsV l)) ∧ Below w.heap.size w w' := by
  have hcv := run_bytes_of_string (P := Tryd.prog) w 9 22 5 s Tryd.underlying9 Tryd.underlying22 Tryd.underlying5
  obtain ⟨i0, hi, hz0, hz1, hz2⟩ := info_parts (show (Tryd.prog.info? 5).map (fun i => (i.zero, i.size, i.bytes)) = some (some (.int .u8 0), 1, 1) by kernel_rfl)
  have HTab := Lib.hid (Lib.tabBelow_of_tabIs htab)
  have HC := Lib.hid hc
  have H63 := Lib.hid h63
  have hby := Byt.ofString w 5 s (Nat.le_refl _) (by unfold maxLen; omega)
  have hb0 : Below w.heap.size w (w.drew.alloc (.cells (bytesRow s (grownCap w s.size 0 5)) 5 ((bytesRow s (grownCap w s.size 0 5)).size, (bytesRow s (grownCap w s.size 0 5)).size + 1))) := (Below.refl _ w).drew.alloc (Nat.le_refl _) _
  obtain ⟨W, hW⟩ : ∃ W, W = w.drew.alloc (.cells (bytesRow s (grownCap w s.size 0 5)) 5 ((bytesRow s (grownCap w s.size 0 5)).size, (bytesRow s (grownCap w s.size 0 5)).size + 1)) := ⟨_, rfl⟩
  rw [← hW] at hcv hby hb0
  have HBy := Lib.hid hby
  have HB0 := Lib.hid hb0
  clear hc h63 htab hby hb0 hW
  go_enter Tryd.func23, Tryd.ntmps23
  go_wp2_with fail
  clear hcv
  go_loopw [5, 12] (fun x y wr => ∃ k, k ≤ l.length ∧ y = .int .i64 k ∧ Byt wr w.heap.size 5 x (s.size + (numsV (l.take k)).length) (byteCells s ++ Lib.byteCells (numsV (l.take k))) ∧ Below w.heap.size w wr) (fun _ y _ => l.length - (intOf y).toNat)
  case atStart => exact ⟨0, Nat.zero_le _, rfl, by simpa [numsV, Lib.byteCells] using HBy.out, HB0.out⟩
  case round =>
    obtain ⟨k, hk, rfl, hown, hbel⟩ := hrel
    have HOwn := Lib.hid hown
    have HBel := Lib.hid hbel
    have hsz := hbel.size
    by_cases hlt : k < l.length
    · have hck := (hbel.cell (p := ⟨q, k, none⟩) hq).trans (HC.out k hlt)
      have hnl := numsV_length (l.take k) (fun n hn => H63.out n (List.mem_of_mem_take hn))
      rw [List.length_take] at hnl
      have hl63 : l[k] < 9223372036854775808 := H63.out _ (List.getElem_mem hlt)
      have HT := Lib.hid (numsV_take l k hlt)
      clear hown hbel
      go_wp2_with (at_builtin; refine wpList_append_byt _ rfl _ _ 22 22 rfl w.heap.size 5 i0 Tryd.underlying22 hi hz0 hz1 hz2 _ _ _ rfl (HOwn.out.alloc _) _ 1 [.int .u8 32] rfl (Src.ofSlice _ Tryd.underlying22 ⟨wr.heap.size, 0, none⟩ 1 1 _ rfl ?c1 ?c2) ?c3 ?c4 ?_)
      case c1 => intro j u hj; match j, hj with | 0, hj => simp at hj; subst hj; simp [Addr.add]
      case c2 => intro u hu; simp at hu; subst hu; rfl
      case c3 => omega
      case c4 => simp; omega
      intro v2 w2 hb2 hg2
      have HB2 := Lib.hid hb2
      have HBel2 := Lib.hid ((HBel.out.alloc hsz _).grown hg2 (by simp; omega) (fun g hg => (HOwn.out.lt g hg).1))
      have hs2 := HBel2.out.size
      clear hb2 hg2
      go_wp2_with fail
      refine (appInt_here w.heap.size _ l[k] hl63 v2 _ w2 HB2.out hs2 ?d1 (HTab.out _ HBel2.out)).mono ?_
      case d1 => omega
      rintro e w3 ⟨v3, rfl, hb3, hbel3⟩
      have HB3 := Lib.hid hb3
      have HBel3 := Lib.hid (HBel2.out.trans hbel3)
      clear hb3 hbel3
      go_wp2_with fail
      go_roundw
      case rel =>
        refine ⟨k + 1, by omega, by go_num, ?_, HBel3.out⟩
        have h := HB3.out
        rw [HT.out]
        have h32 : Lib.byteCells [32] = [.int .u8 32] := rfl
        have l32 : ([32] : List UInt8).length = 1 := rfl
        simpa only [bcells_append, List.append_assoc, List.length_append, Nat.add_assoc, h32, l32] using h
      case measure => simp [intOf]; omega
    · have hke : k = l.length := by omega
      subst hke
      rw [List.take_length] at hown
      have HO := Lib.hid hown
      clear hown hbel
      go_wp2_with fail
      go_ret
      exact ⟨_, rfl, HO.out, HBel.out⟩

end Go.Proofs.YtkmoihkpaccbdaaDoor

namespace Go.Proofs.YtkmoihkpaccbdaaDoor
open Go.RowKit Go.Maps

/-- The word of a kind. -/
def ttW (k : Int) : ByteArray :=
  if k = 0 then { data := #[110, 111, 110, 99, 101] }
  else if k = 1 then { data := #[107, 101, 121] }
  else if k = 2 then { data := #[116, 101, 120, 116] }
  else if k = 3 then { data := #[112, 97, 105, 114] }
  else if k = 4 then { data := #[104, 97, 115, 104] }
  else if k = 5 then { data := #[115, 101, 97, 108] }
  else { data := #[115, 105, 103, 110] }

/-- The numbers of a term. -/
def ttN (t : Tm) : List Nat := if t.kind = 2 then [t.text.length] else if t.kind = 3 ∨ t.kind = 5 ∨ t.kind = 6 then [t.a.toNat, t.b.toNat] else [t.a.toNat]

/-- A term as text. -/
def ttB (t : Tm) : List UInt8 := (ttW t.kind).data.toList ++ numsV (ttN t)

/-- What TermText answers. -/
noncomputable def ttV (ts : List Tm) (id : Int) : List UInt8 := if lokB ts = true ∧ hasB ts.length id = true then ttB (tmAt ts id) else []

/-- A new list of bytes that may be written into is handed back. -/
def NewBytesFr (l : List UInt8) (w : World) (e : Ending) (w' : World) : Prop :=
  ∃ A c, e = .returned (.slice A l.length c) ∧ BytesFr w' w.heap.size w'.heap.size A l ∧ Below w.heap.size w w'

theorem NewBytesFr.nil {w w' : World} {c : Nat} (h : Below w.heap.size w w') : NewBytesFr [] w (.returned (.slice none 0 c)) w' := ⟨none, c, rfl, BytesFr.nil, h⟩

theorem bytes_of_byt {w : World} {B : Nat} {e : TypeId} {A : Option Addr} {c : Nat} {l : List UInt8} (h : Byt w B e (.slice A l.length c) l.length (Lib.byteCells l)) : BytesFr w B w.heap.size A l := fun hl => by
  have h0 := h
  obtain ⟨g, cap, hv, hnc, hcm, hb, hlt, hc⟩ := h0.cells
  injection hv with h1 _ _
  obtain ⟨_, g', cap', cur, fz, hv', _, hgg, hfz, hnc', _, hcs, _⟩ := h
  injection hv' with h1' _ _
  rw [h1] at h1'
  injection h1' with h1'
  injection h1' with h1' _ _
  subst h1'
  refine ⟨g, 0, h1, hb, hlt, fun j hj => ⟨?_, ?_⟩⟩
  · have := hc j (.int .u8 (l[j].toNat : Int)) (by simp [Lib.byteCells, hj])
    rw [Addr.add_lit] at this
    exact this
  · simp only [World.frozen?, hgg, Nat.zero_add, Bool.and_eq_false_iff, decide_eq_false_iff_not]
    omega

theorem byt_shape {w : World} {B : Nat} {e : TypeId} {v : Value} {n : Nat} {xs : List Value} (h : Byt w B e v n xs) : ∃ A c, v = .slice A n c := by
  obtain ⟨_, g, cap, cur, fz, rfl, _⟩ := h
  exact ⟨_, _, rfl⟩

theorem NewByt.fr {l : List UInt8} {w w0 : World} {e : Ending} {w' : World} (h : NewByt l w e w') (hb : Below w0.heap.size w0 w) : NewBytesFr l w0 e w' := by
  obtain ⟨v, rfl, hby, hbel⟩ := h
  obtain ⟨A, c, rfl⟩ := byt_shape hby
  exact ⟨A, c, rfl, (bytes_of_byt hby).low hb.size, hb.trans (hbel.mono hb.size)⟩

theorem Byt.low {w : World} {B B' : Nat} {e : TypeId} {v : Value} {n : Nat} {xs : List Value} (h : Byt w B e v n xs) (hB : B' ≤ B) : Byt w B' e v n xs := by
  obtain ⟨hl, g, cap, cur, fz, hv, hb, rest⟩ := h
  exact ⟨hl, g, cap, cur, fz, hv, by omega, rest⟩

theorem word_new {w w' : World} {s : ByteArray} {l : List Nat} {o : Obj} {e : Ending} (h : ∃ v, e = .returned v ∧ Byt w' (w.alloc o).heap.size 5 v (s.size + (numsV l).length) (byteCells s ++ Lib.byteCells (numsV l)) ∧ Below (w.alloc o).heap.size (w.alloc o) w') : NewByt (s.data.toList ++ numsV l) w e w' := by
  obtain ⟨v, rfl, hby, hbel⟩ := h
  refine ⟨v, rfl, ?_, ((Below.refl _ w).alloc (Nat.le_refl _) o).trans (hbel.mono (by simp))⟩
  rw [bcells_append, List.length_append]
  exact hby.low (by simp)

theorem word1_any (s : ByteArray) (hs : s.size ≤ 100) (n : Nat) (h63 : n < 9223372036854775808) (q : Nat) (w : World) (hq : w.heap.size = q) (htab : Lib.TabIs Tryd.prog w "internal/strconv.uint64pow10" .u64 Lib.pow10Tab) :
    Calls Tryd.prog 23 #[.string s, .slice (some ⟨q, 0, none⟩) 1 1] (w.alloc (.cells #[.int .i64 (n : Int)] 3)) (NewByt (s.data.toList ++ numsV [n]) w) := by
  subst hq
  exact (word_any s hs [n] (by simp) (by simpa using h63) w.heap.size 1 _ (by simp) (fun j hj => by match j, hj with | 0, _ => simp) (Lib.tabIs_alloc htab _)).mono fun _ _ h => word_new h

theorem word2_any (s : ByteArray) (hs : s.size ≤ 100) (n m : Nat) (h63 : n < 9223372036854775808) (h63' : m < 9223372036854775808) (q : Nat) (w : World) (hq : w.heap.size = q) (htab : Lib.TabIs Tryd.prog w "internal/strconv.uint64pow10" .u64 Lib.pow10Tab) :
    Calls Tryd.prog 23 #[.string s, .slice (some ⟨q, 0, none⟩) 2 2] (w.alloc (.cells #[.int .i64 (n : Int), .int .i64 (m : Int)] 3)) (NewByt (s.data.toList ++ numsV [n, m]) w) := by
  subst hq
  exact (word_any s hs [n, m] (by simp) (by simp; omega) w.heap.size 2 _ (by simp) (fun j hj => by match j, hj with | 0, _ => simp | 1, _ => simp) (Lib.tabIs_alloc htab _)).mono fun _ _ h => word_new h

/-- A good term's numbers are none below zero, and small. -/
theorem good_nums {ts : List Tm} {i : Nat} (hok : LOk ts) (hi : i < ts.length) : ∃ na nb : Nat, ts[i].a = na ∧ ts[i].b = nb ∧ na < 1000 ∧ nb < 1000 ∧ ts[i].text.length ≤ 300 := by
  have h4 := hok.1
  obtain ⟨_, h1, _⟩ := hok.2 i hi
  unfold okB at h1
  suffices h : 0 ≤ ts[i].a ∧ ts[i].a < 1000 ∧ 0 ≤ ts[i].b ∧ ts[i].b < 1000 ∧ ts[i].text.length ≤ 300 from ⟨ts[i].a.toNat, ts[i].b.toNat, by omega, by omega, by omega, by omega, h.2.2.2.2⟩
  split at h1
  · simp only [Bool.and_eq_true, decide_eq_true_eq, beq_iff_eq] at h1; omega
  · split at h1
    · simp only [Bool.and_eq_true, decide_eq_true_eq, beq_iff_eq] at h1; omega
    · split at h1
      · simp only [Bool.and_eq_true, decide_eq_true_eq, beq_iff_eq] at h1; omega
      · split at h1
        · simp only [Bool.and_eq_true, decide_eq_true_eq, beq_iff_eq] at h1; omega
        · cases h1

theorem ttB_0 (t : Tm) (h : t.kind = 0) : ttB t = ({ data := #[110, 111, 110, 99, 101] } : ByteArray).data.toList ++ numsV [t.a.toNat] := by simp [ttB, ttW, ttN, h]
theorem ttB_1 (t : Tm) (h : t.kind = 1) : ttB t = ({ data := #[107, 101, 121] } : ByteArray).data.toList ++ numsV [t.a.toNat] := by simp [ttB, ttW, ttN, h]
theorem ttB_2 (t : Tm) (h : t.kind = 2) : ttB t = ({ data := #[116, 101, 120, 116] } : ByteArray).data.toList ++ numsV [t.text.length] := by simp [ttB, ttW, ttN, h]
theorem ttB_3 (t : Tm) (h : t.kind = 3) : ttB t = ({ data := #[112, 97, 105, 114] } : ByteArray).data.toList ++ numsV [t.a.toNat, t.b.toNat] := by simp [ttB, ttW, ttN, h]
theorem ttB_4 (t : Tm) (h : t.kind = 4) : ttB t = ({ data := #[104, 97, 115, 104] } : ByteArray).data.toList ++ numsV [t.a.toNat] := by simp [ttB, ttW, ttN, h]
theorem ttB_5 (t : Tm) (h : t.kind = 5) : ttB t = ({ data := #[115, 101, 97, 108] } : ByteArray).data.toList ++ numsV [t.a.toNat, t.b.toNat] := by simp [ttB, ttW, ttN, h]
theorem ttB_6 (t : Tm) (h : t.kind = 6) : ttB t = ({ data := #[115, 105, 103, 110] } : ByteArray).data.toList ++ numsV [t.a.toNat, t.b.toNat] := by simp [ttB, ttW, ttN, h]

section
variable (A : Option Addr) (ts : List Tm) (c L B : Nat) (id : Int) (w : World)

set_option maxRecDepth 100000 in
set_option maxHeartbeats 4000000 in
theorem implTermText_any (hA : TmsIn w L B A ts) (hB : B ≤ w.heap.size) (hn : ts.length ≤ 1048576) (hbk : bulk ts ≤ 1048576) (htab : Lib.TabIs Tryd.prog w "internal/strconv.uint64pow10" .u64 Lib.pow10Tab) :
    Calls Tryd.prog 8 #[.agg #[.slice A ts.length c], .int .i64 id] w (NewBytesFr (ttV ts id) w) := by
  have HA := Lib.hid hA
  have HTab := Lib.hid (Lib.tabBelow_of_tabIs htab)
  clear hA htab
  go_enter Tryd.func8, Tryd.ntmps8
  go_wp2_with fail
  have hb0 : Below w.heap.size w (w.alloc (.cells #[.slice A ts.length c] 25)) := (Below.refl _ _).alloc (Nat.le_refl _) _
  refine (readLedger_any A ts c L B _ (HA.out.keep fun p _ hp => hb0.cell (by omega)) (by simp; omega) hn hbk).mono ?_
  rintro e w1 (⟨hok, A1, c1, M, rfl, _, hbk1, _, hb1⟩ | ⟨hno, rfl, hb1⟩)
  · have HB := Lib.hid (hb0.trans (hb1.mono (by simp)))
    have HK := Lib.hid (lokB_true hok)
    have HOk := Lib.hid hok
    have HBk := Lib.hid hbk1
    clear hb0 hb1 hok hbk1
    go_wp2_with fail
    have hb2 : Below w1.heap.size w1 (w1.alloc (.cells #[.slice A1 ts.length c1, .map (some M)] 47)) := (Below.refl _ _).alloc (Nat.le_refl _) _
    refine (has_any _ _ _ _ _ _).mono ?_
    rintro e w2 ⟨rfl, hb3⟩
    have d0 : w2.cell? ⟨w1.heap.size, 0, none⟩ = some (.slice A1 ts.length c1) := (hb3.cell (p := ⟨w1.heap.size, 0, none⟩) (by simp)).trans (by simp)
    have hz2 : w1.heap.size < w2.heap.size := by have := hb3.size; simp at this; omega
    have hb12 := hb2.trans (hb3.mono (by simp))
    have HB2 := Lib.hid (HB.out.trans (hb12.mono HB.out.size))
    have HB12 := Lib.hid hb12
    clear hb2 hb3 hb12
    cases hh : hasB ts.length id with
    | false =>
      have HV := Lib.hid (show ttV ts id = [] by simp [ttV, hh])
      clear hh
      go_wp2_with fail
      all_goals go_ret
      all_goals (rw [HV.out]; exact .nil HB2.out)
    | true =>
      have hr := (hasB_iff _ _).1 hh
      obtain ⟨i, rfl⟩ := Int.eq_ofNat_of_zero_le hr.1
      have hi : i < ts.length := by omega
      have hi4 : ts.length ≤ 400 := HOk.out.1
      have HV := Lib.hid (show ttV ts i = ttB ts[i] by simp [ttV, HK.out, hh, tmAt_nat ts i hi])
      obtain ⟨b, o, rfl, hL, hb, hc⟩ := HBk.out (by omega)
      have hci := (HB12.out.cell (p := ⟨b, o + i, none⟩) hb).trans (hc i hi)
      obtain ⟨_, hkind⟩ := kind_of_good (HOk.out.2 i hi)
      obtain ⟨na, nb, hna, hnb, hna3, hnb3, htx⟩ := good_nums HOk.out hi
      clear hh hr hc
      rcases hkind with hk | hk | hk | hk | hk | hk | hk
      · rw [show tv ts[i] = .iface 57 (.agg #[.int .i64 ts[i].a]) by simp [tv, hk]] at hci
        have hT := ttB_0 ts[i] hk
        rw [hna] at hci hT
        rw [Int.toNat_natCast] at hT
        have HT := Lib.hid hT
        clear hk hna hnb hT
        go_wp2_with fail
        refine (word1_any _ (by decide) na (by omega) _ _ (by simp) (HTab.out _ ?d0)).mono ?_
        case d0 => exact HB2.out.alloc HB2.out.size _
        intro e w3 hnew
        have hfr := hnew.fr (HB2.out.alloc HB2.out.size (.cells #[.int .i64 na] 57))
        have HR := Lib.hid (show NewBytesFr (ttV ts i) w e w3 by rw [HV.out, HT.out]; exact hfr)
        obtain ⟨v3, rfl, _⟩ := hnew
        clear hfr
        go_wp2_with fail
        go_ret
        exact HR.out
      · rw [show tv ts[i] = .iface 59 (.agg #[.int .i64 ts[i].a]) by simp [tv, hk]] at hci
        have hT := ttB_1 ts[i] hk
        rw [hna] at hci hT
        rw [Int.toNat_natCast] at hT
        have HT := Lib.hid hT
        clear hk hna hnb hT
        go_wp2_with fail
        refine (word1_any _ (by decide) na (by omega) _ _ (by simp) (HTab.out _ ?d0)).mono ?_
        case d0 => exact HB2.out.alloc HB2.out.size _
        intro e w3 hnew
        have hfr := hnew.fr (HB2.out.alloc HB2.out.size (.cells #[.int .i64 na] 59))
        have HR := Lib.hid (show NewBytesFr (ttV ts i) w e w3 by rw [HV.out, HT.out]; exact hfr)
        obtain ⟨v3, rfl, _⟩ := hnew
        clear hfr
        go_wp2_with fail
        go_ret
        exact HR.out
      · rw [show tv ts[i] = .iface 61 (.agg #[.string ⟨ts[i].text.toArray⟩]) by simp [tv, hk]] at hci
        have hT := ttB_2 ts[i] hk
        have HT := Lib.hid hT
        clear hk hna hnb hT
        go_wp2_with fail
        refine (word1_any _ (by decide) ts[i].text.length (by omega) _ _ (by simp) (HTab.out _ ?d0)).mono ?_
        case d0 => exact HB2.out.alloc HB2.out.size _
        intro e w3 hnew
        have hfr := hnew.fr (HB2.out.alloc HB2.out.size (.cells #[.string ⟨ts[i].text.toArray⟩] 61))
        have HR := Lib.hid (show NewBytesFr (ttV ts i) w e w3 by rw [HV.out, HT.out]; exact hfr)
        obtain ⟨v3, rfl, _⟩ := hnew
        clear hfr
        go_wp2_with fail
        go_ret
        exact HR.out
      · rw [show tv ts[i] = .iface 63 (.agg #[.int .i64 ts[i].a, .int .i64 ts[i].b]) by simp [tv, hk]] at hci
        have hT := ttB_3 ts[i] hk
        rw [hna, hnb] at hci hT
        rw [Int.toNat_natCast, Int.toNat_natCast] at hT
        have HT := Lib.hid hT
        clear hk hna hnb hT
        go_wp2_with fail
        refine (word2_any _ (by decide) na nb (by omega) (by omega) _ _ (by simp) (HTab.out _ ?d0)).mono ?_
        case d0 => exact HB2.out.alloc HB2.out.size _
        intro e w3 hnew
        have hfr := hnew.fr (HB2.out.alloc HB2.out.size (.cells #[.int .i64 na, .int .i64 nb] 63))
        have HR := Lib.hid (show NewBytesFr (ttV ts i) w e w3 by rw [HV.out, HT.out]; exact hfr)
        obtain ⟨v3, rfl, _⟩ := hnew
        clear hfr
        go_wp2_with fail
        go_ret
        exact HR.out
      · rw [show tv ts[i] = .iface 65 (.agg #[.int .i64 ts[i].a]) by simp [tv, hk]] at hci
        have hT := ttB_4 ts[i] hk
        rw [hna] at hci hT
        rw [Int.toNat_natCast] at hT
        have HT := Lib.hid hT
        clear hk hna hnb hT
        go_wp2_with fail
        refine (word1_any _ (by decide) na (by omega) _ _ (by simp) (HTab.out _ ?d0)).mono ?_
        case d0 => exact HB2.out.alloc HB2.out.size _
        intro e w3 hnew
        have hfr := hnew.fr (HB2.out.alloc HB2.out.size (.cells #[.int .i64 na] 65))
        have HR := Lib.hid (show NewBytesFr (ttV ts i) w e w3 by rw [HV.out, HT.out]; exact hfr)
        obtain ⟨v3, rfl, _⟩ := hnew
        clear hfr
        go_wp2_with fail
        go_ret
        exact HR.out
      · rw [show tv ts[i] = .iface 67 (.agg #[.int .i64 ts[i].a, .int .i64 ts[i].b]) by simp [tv, hk]] at hci
        have hT := ttB_5 ts[i] hk
        rw [hna, hnb] at hci hT
        rw [Int.toNat_natCast, Int.toNat_natCast] at hT
        have HT := Lib.hid hT
        clear hk hna hnb hT
        go_wp2_with fail
        refine (word2_any _ (by decide) na nb (by omega) (by omega) _ _ (by simp) (HTab.out _ ?d0)).mono ?_
        case d0 => exact HB2.out.alloc HB2.out.size _
        intro e w3 hnew
        have hfr := hnew.fr (HB2.out.alloc HB2.out.size (.cells #[.int .i64 na, .int .i64 nb] 67))
        have HR := Lib.hid (show NewBytesFr (ttV ts i) w e w3 by rw [HV.out, HT.out]; exact hfr)
        obtain ⟨v3, rfl, _⟩ := hnew
        clear hfr
        go_wp2_with fail
        go_ret
        exact HR.out
      · rw [show tv ts[i] = .iface 68 (.agg #[.int .i64 ts[i].a, .int .i64 ts[i].b]) by simp [tv, hk]] at hci
        have hT := ttB_6 ts[i] hk
        rw [hna, hnb] at hci hT
        rw [Int.toNat_natCast, Int.toNat_natCast] at hT
        have HT := Lib.hid hT
        clear hk hna hnb hT
        go_wp2_with fail
        refine (word2_any _ (by decide) na nb (by omega) (by omega) _ _ (by simp) (HTab.out _ ?d0)).mono ?_
        case d0 => exact HB2.out.alloc HB2.out.size _
        intro e w3 hnew
        have hfr := hnew.fr (HB2.out.alloc HB2.out.size (.cells #[.int .i64 na, .int .i64 nb] 68))
        have HR := Lib.hid (show NewBytesFr (ttV ts i) w e w3 by rw [HV.out, HT.out]; exact hfr)
        obtain ⟨v3, rfl, _⟩ := hnew
        clear hfr
        go_wp2_with fail
        go_ret
        exact HR.out
  · have HB := Lib.hid (hb0.trans (hb1.mono (by simp)))
    have HV := Lib.hid (show ttV ts id = [] by simp [ttV, lokB_false hno])
    clear hb0 hb1 hno
    go_wp2_with fail
    go_ret
    rw [HV.out]
    exact .nil (HB.out.alloc HB.out.size _)
end

end Go.Proofs.YtkmoihkpaccbdaaDoor
