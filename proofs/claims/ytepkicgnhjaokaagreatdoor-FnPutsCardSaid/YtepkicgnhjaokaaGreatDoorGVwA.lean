/-
  Several texts in one: Byt, App, TxtM, TxtI, VwP, VwI.
-/
import Derived.Deep.AppendSrc
import Derived.Laws.IdiomStrings
import Derived.Lib.OthersKept
import Derived.Shelf.Strconv.AppendIntPublic10
import Derived.Test.YtepkicgnhjaokaaGreatDoorFresh2
import Derived.Lib.ItoaNum
import Derived.Test.YtepkicgnhjaokaaGreatDoorGSh
import Derived.Test.YtepkicgnhjaokaaGreatDoorOut
import Derived.Test.YtepkicgnhjaokaaGreatDoorStart
import Derived.Test.YtepkicgnhjaokaaGreatDoorRdTr
import Derived.Deep.CutRange
namespace Go.Proofs.YtepkicgnhjaokaaGreatDoor
open Go.RowKit

theorem byt_alloc_old (w : World) (o : Obj) {r : Nat} (h : r < w.heap.size) : (w.alloc o).heap[r]? = w.heap[r]? := by
  show (w.heap.push o)[r]? = _
  rw [Array.getElem?_push_lt h, Array.getElem?_eq_getElem h]


/-- v is a row of n bytes of the call's own: its block lies from B on; no cell of it is frozen. -/
def Byt (w : World) (B : Nat) (e : TypeId) (v : Value) (n : Nat) (xs : List Value) : Prop :=
  xs.length = n ∧ ∃ g cap cur fz, v = .slice (some ⟨g, 0, none⟩) n cap ∧ B ≤ g ∧ w.heap[g]? = some (.cells cur e fz) ∧ (fz.2 = 0 ∨ cap ≤ fz.1) ∧ n ≤ cap ∧ cap ≤ maxLen ∧ cur.size = cap ∧ cur.toList.take n = xs

theorem setCells_row (g : Nat) (e : TypeId) (fz : Nat × Nat) : ∀ (vs : List Value) (o : Nat) (cur : Array Value) (w : World), w.heap[g]? = some (.cells cur e fz) → o + vs.length ≤ cur.size →
    ∃ cur', (w.setCells g o vs).heap[g]? = some (.cells cur' e fz) ∧ cur'.size = cur.size ∧ cur'.toList.take (o + vs.length) = cur.toList.take o ++ vs
  | [], o, cur, w, hg, _ => ⟨cur, hg, rfl, by simp⟩
  | v :: r, o, cur, w, hg, hl => by
    simp only [List.length_cons] at hl
    have hg' : (w.setCell ⟨g, o, none⟩ v).heap[g]? = some (.cells (cur.setIfInBounds o v) e fz) := by
      simp [World.setCell, Array.getElem?_modify, hg]
    obtain ⟨cur', h1, h2, h3⟩ := setCells_row g e fz r (o + 1) (cur.setIfInBounds o v) _ hg' (by simp; omega)
    refine ⟨cur', h1, by simpa using h2, ?_⟩
    have hlt : o < cur.toList.length := by simp; omega
    have hset : (cur.toList.set o v).take (o + 1) = cur.toList.take o ++ [v] := by
      rw [List.take_add_one, List.getElem?_set_self hlt]
      simp [List.take_set_of_le]
    rw [List.length_cons, show o + (r.length + 1) = o + 1 + r.length by omega, h3, Array.toList_setIfInBounds, hset, List.append_assoc]
    rfl

theorem setCells_grown (g : Nat) : ∀ (vs : List Value) (o : Nat) (w : World), w.grownBy (w.setCells g o vs) (some g)
  | [], _, _ => ⟨rfl, rfl, rfl, Nat.le_refl _, fun _ _ _ => rfl⟩
  | v :: r, o, w => by
    have h := setCells_grown g r (o + 1) (w.setCell ⟨g, o, none⟩ v)
    have hs : (w.setCell ⟨g, o, none⟩ v).heap.size = w.heap.size := by simp [World.setCell]
    refine ⟨h.os, h.tape, h.output, by rw [← hs]; exact h.size, fun k hk hne => ?_⟩
    rw [World.setCells, h.block k (by omega) hne]
    exact Below.heap_setCell _ _ _ _ (fun e => hne (by rw [e]))

section
variable {w : World} {B : Nat} {e : TypeId} {v : Value} {n : Nat} {xs : List Value}

theorem Byt.lt (h : Byt w B e v n xs) : ∀ k, v.ownBlock = some k → B ≤ k ∧ k < w.heap.size := by
  intro k hk
  obtain ⟨_, g, cap, cur, fz, rfl, hb, hg, _⟩ := h
  simp [Value.ownBlock] at hk
  subst hk
  exact ⟨hb, (Array.getElem?_eq_some_iff.1 hg).1⟩

theorem Byt.kept {w' : World} {row : Option Nat} (h : Byt w B e v n xs) (hg : w.grownBy w' row) (hne : v.ownBlock ≠ row) : Byt w' B e v n xs := by
  obtain ⟨hl, g, cap, cur, fz, rfl, hb, hgg, rest⟩ := h
  refine ⟨hl, g, cap, cur, fz, rfl, hb, ?_, rest⟩
  rw [hg.block g (Array.getElem?_eq_some_iff.1 hgg).1 (by simpa [Value.ownBlock] using hne)]
  exact hgg

theorem Byt.same {w' : World} (h : Byt w B e v n xs) (hw : ∀ g, g < w.heap.size → w'.heap[g]? = w.heap[g]?) : Byt w' B e v n xs := by
  obtain ⟨hl, g, cap, cur, fz, rfl, hb, hgg, rest⟩ := h
  exact ⟨hl, g, cap, cur, fz, rfl, hb, (hw g (Array.getElem?_eq_some_iff.1 hgg).1).trans hgg, rest⟩

theorem Byt.drew (h : Byt w B e v n xs) : Byt w.drew B e v n xs := h
theorem Byt.alloc (h : Byt w B e v n xs) (o : Obj) : Byt (w.alloc o) B e v n xs := h.same fun _ hg => byt_alloc_old w o hg

theorem Byt.kind (h : Byt w B e v n xs) : ∀ g, v.ownBlock = some g → ∃ c fz, w.heap[g]? = some (.cells c e fz) := by
  intro k hk
  obtain ⟨_, g, cap, cur, fz, rfl, hb, hg, _⟩ := h
  simp [Value.ownBlock] at hk
  subst hk
  exact ⟨cur, fz, hg⟩

theorem Byt.cells (h : Byt w B e v n xs) : ∃ g cap, v = .slice (some ⟨g, 0, none⟩) n cap ∧ n ≤ cap ∧ cap ≤ maxLen ∧ B ≤ g ∧ g < w.heap.size ∧ ∀ j u, xs[j]? = some u → w.cell? ((⟨g, 0, none⟩ : Addr).add j) = some u := by
  obtain ⟨hl, g, cap, cur, fz, rfl, hb, hgg, _, hnc, hcm, _, htake⟩ := h
  refine ⟨g, cap, rfl, hnc, hcm, hb, (Array.getElem?_eq_some_iff.1 hgg).1, fun j u hu => ?_⟩
  have hadd : (⟨g, 0, none⟩ : Addr).add j = ⟨g, j, none⟩ := by unfold Addr.add; split <;> simp_all
  rw [hadd, cell_of_row w g j cur e fz hgg]
  rw [← htake, List.getElem?_take] at hu
  split at hu
  · simpa using hu
  · cases hu

/-- A row that a call owns in the elder sense, and that is there. -/
theorem Byt.of (h : w.ownsRow B e 1 v n xs) (hv : v ≠ .slice none 0 0) : Byt w B e v n xs := by
  rcases h.2 with ⟨rfl, _⟩ | ⟨g, cap, cur, rfl, hb, hg, hnc, hcm, hcs, htake⟩
  · exact absurd rfl hv
  · exact ⟨by simpa using h.1, g, cap, cur, (0, 0), rfl, hb, hg, .inl rfl, hnc, hcm, by simpa using hcs, by simpa using htake⟩

/-- What []byte(s) makes. -/
theorem Byt.ofString (w : World) (e : TypeId) (s : ByteArray) (hB : B ≤ w.heap.size) (hs : s.size ≤ maxLen) :
    Byt (w.drew.alloc (.cells (bytesRow s (grownCap w s.size 0 e)) e ((bytesRow s (grownCap w s.size 0 e)).size, (bytesRow s (grownCap w s.size 0 e)).size + 1))) B e
      (.slice (some ⟨w.heap.size, 0, none⟩) s.size (grownCap w s.size 0 e)) s.size (byteCells s) := by
  have hge := grownCap_ge w s.size 0 e
  have hsz : (bytesRow s (grownCap w s.size 0 e)).size = grownCap w s.size 0 e := by
    have hd : s.data.size = s.size := rfl
    simp only [bytesRow, Array.size_append, Array.size_map, Array.size_replicate, hd]
    omega
  refine ⟨byteCells_length s, w.heap.size, grownCap w s.size 0 e, _, _, rfl, hB, heap_alloc_new w.drew _, .inr (by simp [hsz]), hge, grownCap_le_maxLen w s.size 0 e hs, hsz, ?_⟩
  have hl : (byteCells s).length = s.size := byteCells_length s
  have e1 : (bytesRow s (grownCap w s.size 0 e)).toList = byteCells s ++ List.replicate (grownCap w s.size 0 e - s.size) (.int .u8 0) := by simp [bytesRow, byteCells]
  rw [e1, ← hl]
  exact List.take_left

end

section
variable {P : Program} (w : World)

/-- append onto such a row, of whatever: it is such a row again. -/
theorem run_append_byt (B : Nat) (t tx ty e : TypeId) (i : TypeInfo) (ht : P.underlying t = some (.slice e)) (hi : P.info? e = some i) (hz : i.zero = some (.int .u8 0)) (hsize : i.size = 1) (hby : i.bytes = 1)
    (v : Value) (n : Nat) (xs : List Value) (hown : Byt w B e v n xs) (x : Value) (m : Nat) (news : List Value) (hs : Src P 1 tx x m news w) (hlim : n + m ≤ 140737488355328) (hB : B ≤ w.heap.size) :
    ∃ v' w', (Builtin.append_ #[t, tx] ty #[v, x]).run P w = .ok v' w' ∧ Byt w' B e v' (n + m) (xs ++ news) ∧ w.grownBy w' v.ownBlock := by
  have hown0 := hown
  obtain ⟨hl, g, cap, cur, fz, rfl, hb, hgg, hfz, hnc, hcm, hcs, htake⟩ := hown
  obtain ⟨g0, cap0, e0, _, _, _, _, hcell⟩ := hown0.cells
  injection e0 with e0 _ _
  injection e0 with e0
  injection e0 with e0 _ _
  subst e0
  have hm : news.length = m := by simpa using hs.newsLen
  by_cases hroom : n + m ≤ cap
  · have hr := run_append_room_src (P := P) w t tx ty e i ht hi g 0 n cap x m news (by rw [hsize]; exact hs) hroom
      (fun j hj => by
        have : n + j < cur.size := by omega
        simp [World.cell?, hgg, hsize, this])
      (fun j hj => by
        obtain ⟨lo, hi'⟩ := fz
        simp only [World.frozen?, hgg, hsize, Bool.and_eq_false_iff, decide_eq_false_iff_not]
        simp only at hfz
        omega)
    obtain ⟨cur', h1, h2, h3⟩ := setCells_row g e fz news (0 + n * i.size) cur w hgg (by rw [hsize]; omega)
    refine ⟨_, _, hr, ⟨by simp [hl, hm], g, cap, cur', fz, rfl, hb, h1, hfz, hroom, hcm, by omega, ?_⟩, setCells_grown g news _ w⟩
    rw [hsize, hm] at h3
    simpa [htake] using h3
  · have hr := run_append_grow_src (P := P) w t tx ty e i (.int .u8 0) ht hi hz (some ⟨g, 0, none⟩) n cap xs
      (by rw [hsize]; exact run_firstCells_some w.drew 1 n _ n cap xs (by omega) (by simpa using hcell)) x m news (by rw [hsize]; exact hs) (by omega) (by omega) (by rw [hby]; exact growslice_fits (by omega) (by omega))
    have hge := grownCap_ge w (n + m) cap e
    have hcm2 : grownCap w (n + m) cap e ≤ maxLen := grownCap_le_maxLen w (n + m) cap e (by unfold maxLen; omega)
    refine ⟨_, _, hr, ⟨by simp [hl, hm], w.heap.size, _, _, (0, 0), rfl, hB, heap_alloc_new w.drew _, .inl rfl, hge, hcm2, ?_, ?_⟩, ⟨rfl, rfl, rfl, by simp, fun k hk _ => byt_alloc_old w.drew _ hk⟩⟩
    · have hz1 : (Value.int IntKind.u8 0).cells.size = 1 := rfl
      simp only [Array.size_append, List.size_toArray, List.length_append, size_zeroCells, hz1, hl, hm]
      omega
    · have hlen : (xs ++ news).length = n + m := by simp [hl, hm]
      rw [Array.toList_append, ← hlen]
      exact List.take_left

theorem wpList_append_byt {ops : Array Oper} {rest : List Oper} {o : Oper} {a : Act} {Q : Exit → Act → World → Prop} (hgd : o.guard = none) (s x : Operand) (t tx : TypeId)
    (ho : o.op = .call { callee := .builtin .append, args := #[s, x], argTypes := #[t, tx] })
    (B : Nat) (e : TypeId) (i : TypeInfo) (ht : P.underlying t = some (.slice e)) (hi : P.info? e = some i) (hz : i.zero = some (.int .u8 0)) (hsize : i.size = 1) (hby : i.bytes = 1)
    (v : Value) (n : Nat) (xs : List Value) (hv : a.eval s = v) (hown : Byt w B e v n xs) (y : Value) (m : Nat) (news : List Value) (hx : a.eval x = y) (hs : Src P 1 tx y m news w) (hlim : n + m ≤ 140737488355328) (hB : B ≤ w.heap.size)
    (h : ∀ v' w', Byt w' B e v' (n + m) (xs ++ news) → w.grownBy w' v.ownBlock → wpList P ops Q rest (a.put o.dst v') w') : wpList P ops Q (o :: rest) a w := by
  refine wpList_plain hgd fun K hK => ?_
  obtain ⟨v', w', hr, h2, h3⟩ := run_append_byt (P := P) w B t tx o.type e i ht hi hz hsize hby v n xs hown y m news hs hlim hB
  unfold Oper.wp execOp
  simp only [ho, resolve, invoke, builtin, Sem.run_bind, Sem.run_pure, Result.andThen_ok, List.map_toArray, List.map_cons, List.map_nil, hv, hx, hr]
  exact hK _ _ (h v' w' h2 h3)
end

end Go.Proofs.YtepkicgnhjaokaaGreatDoor

namespace Go.Proofs.YtepkicgnhjaokaaGreatDoor
open Go.Shelf Go.RowKit Go.Sort Go.Lib
variable {P : Program} {ρ : Ren}

theorem cells_of_digits (l : List UInt8) : Go.byteCells ⟨l.toArray⟩ = Lib.byteCells l := rfl

theorem digits20 (u : Nat) (hu64 : u < 18446744073709551616) : (Lib.decDigits u).length ≤ 20 := by
  rw [Lib.decDigits_length]
  by_cases h : 1 ≤ u
  · have := Lib.numDigits_eq u h hu64
    split at this <;> omega
  · have : u = 0 := by omega
    subst this
    rw [Lib.nDigits_small (by omega)]
    omega

set_option maxHeartbeats 6400000 in
set_option maxRecDepth 100000 in
theorem appUint_small (L : LaysM.n288 P ρ) (B n u : Nat) (hu : u < 100) (sv : Value) (xs : List Value) (w : World) (hown : Byt w B (ρ.t 5) sv n xs) (hB : B ≤ w.heap.size) (hlim : n + 20 ≤ 140737488355328) :
    Calls P (ρ.f 288) #[sv, .int .u64 u, .int .i64 10] w fun e w' => ∃ v', e = .returned v' ∧ Byt w' B (ρ.t 5) v' (n + (Lib.decDigits u).length) (xs ++ Lib.byteCells (Lib.decDigits u)) ∧ Below B w w' := by
  have mixed := L.mixed
  have t5 := L.t5; have a5 := L.a5; have z5 := L.z5; have v5 := L.v5
  have t37 := L.t37; have u37 := run_underlying L.t37; have a37 := L.a37; have z37 := L.z37; have v37 := L.v37
  have t53 := L.t53; have a53 := L.a53; have z53 := L.z53; have v53 := L.v53
  have t3 := L.t3; have a3 := L.a3; have z3 := L.z3; have v3 := L.v3
  have t4 := L.t4; have a4 := L.a4; have z4 := L.z4; have v4 := L.v4
  have t9 := L.t9; have a9 := L.a9; have z9 := L.z9; have v9 := L.v9
  have t171 := L.t171; have a171 := L.a171; have z171 := L.z171; have v171 := L.v171
  have t0 := L.t0; have a0 := L.a0; have z0 := L.z0; have v0 := L.v0
  have t173 := L.t173; have a173 := L.a173; have z173 := L.z173; have v173 := L.v173
  have e283 : ∀ args w, (callFunc (ρ.f 283) args).run P w = .ok (.enter (ρ.f 283) args) w := enters_of L.f283 (by kernel_rfl) rfl
  obtain ⟨i0, hi, hz0, hz1, hz2⟩ := info_parts L.i5
  have hlen : (Lib.decDigits u).length ≤ 20 := digits20 u (by omega)
  have hsz : (⟨(Lib.decDigits u).toArray⟩ : ByteArray).size = (Lib.decDigits u).length := by simp [ByteArray.size]
  go_enter L.f288, Body.n288_ntmps ρ
  go_wp2_with (first
    | (go_at_fn (ρ.f 283); refine (Any.internal_strconv_small { L with } u hu _).mono ?_; rintro e w' ⟨rfl, rfl⟩)
    | (at_builtin; refine wpList_append_byt _ rfl _ _ (ρ.t 37) (ρ.t 9) rfl B (ρ.t 5) i0 L.t37 hi hz0 hz1 hz2 sv n xs rfl hown _ _ _ rfl (Src.ofString _ L.t9 ⟨(Lib.decDigits u).toArray⟩) (by rw [hsz]; omega) hB ?_))
  intro v' w1 hown' hgrow
  go_wp2
  go_ret
  exact ⟨v', rfl, hown', (Below.refl B _).grown hgrow hB (fun k hk => (hown.lt k hk).1)⟩

set_option maxHeartbeats 12800000 in
set_option maxRecDepth 100000 in
theorem appUint_big (L : LaysM.n288 P ρ) (B n u : Nat) (hu : 100 ≤ u) (hu64 : u < 18446744073709551616) (sv : Value) (xs : List Value) (w : World) (hown : Byt w B (ρ.t 5) sv n xs) (hB : B ≤ w.heap.size) (hlim : n + 20 ≤ 140737488355328)
    (htab : Lib.TabIs P w "internal/strconv.uint64pow10" .u64 Lib.pow10Tab) :
    Calls P (ρ.f 288) #[sv, .int .u64 u, .int .i64 10] w fun e w' => ∃ v', e = .returned v' ∧ Byt w' B (ρ.t 5) v' (n + (Lib.decDigits u).length) (xs ++ Lib.byteCells (Lib.decDigits u)) ∧ Below B w w' := by
  have mixed := L.mixed
  have t5 := L.t5; have a5 := L.a5; have z5 := L.z5; have v5 := L.v5
  have t37 := L.t37; have u37 := run_underlying L.t37; have a37 := L.a37; have z37 := L.z37; have v37 := L.v37
  have t53 := L.t53; have a53 := L.a53; have z53 := L.z53; have v53 := L.v53
  have t3 := L.t3; have a3 := L.a3; have z3 := L.z3; have v3 := L.v3
  have t4 := L.t4; have a4 := L.a4; have z4 := L.z4; have v4 := L.v4
  have t9 := L.t9; have a9 := L.a9; have z9 := L.z9; have v9 := L.v9
  have t171 := L.t171; have a171 := L.a171; have z171 := L.z171; have v171 := L.v171
  have t0 := L.t0; have a0 := L.a0; have z0 := L.z0; have v0 := L.v0
  have t173 := L.t173; have a173 := L.a173; have z173 := L.z173; have v173 := L.v173
  have e284 : ∀ args w, (callFunc (ρ.f 284) args).run P w = .ok (.enter (ρ.f 284) args) w := enters_of L.f284 (by kernel_rfl) rfl
  have e285 : ∀ args w, (callFunc (ρ.f 285) args).run P w = .ok (.enter (ρ.f 285) args) w := enters_of L.f285 (by kernel_rfl) rfl
  obtain ⟨i0, hi, hz0, hz1, hz2⟩ := info_parts L.i5
  have hu1 : 1 ≤ u := by omega
  have hd20 := digits20 u hu64
  rw [Lib.decDigits_length] at hd20
  have hal : P.arrayLen (ρ.t 171) = 24 := by simp [Program.arrayLen, L.t171]
  have hsl : ∀ W, (Instr.sliceAt (ρ.t 171) (.pointer (some ⟨w.heap.size, 0, none⟩)) none (some (.int .i64 (Lib.nDigits u : Int))) none).run P W = .ok (.slice (some ⟨w.heap.size, 0, none⟩) (Lib.nDigits u) 24) W := fun W => by
    rw [run_sliceAt_array_h W (ρ.t 171) ⟨w.heap.size, 0, none⟩ (by simp [Program.arrayLen, Program.elem, L.t171]) .i64 (Lib.nDigits u : Int) (by omega) (by rw [hal]; omega)]
    go_simp
  have hH0 := Lib.holds_zero0 w (ρ.t 171) (Lib.nDigits u) (by omega)
  have hfmt := Any.internal_strconv_formatBase10 { L with } w.heap.size 0 24 u (Array.replicate (Lib.nDigits u) 0) (w.alloc (.cells Lib.zeros24 (ρ.t 171))) hH0 (by rw [Array.size_replicate]; exact Lib.lt_pow_nDigits u) hu64 (by rw [Array.size_replicate]; omega)
  rw [Array.size_replicate] at hfmt
  have HH0 := Lib.hid hH0
  have HO := Lib.hid hown
  have iu : (100 : Int) ≤ (u : Int) := by omega
  clear hH0 hal hown
  go_enter L.f288, Body.n288_ntmps ρ
  go_wp2_with (first
    | (go_at_fn (ρ.f 284); refine (Any.internal_strconv_numDigits { L with } u hu1 hu64 _ (Lib.tabIs_alloc htab _)).mono ?_; rintro e w' ⟨rfl, rfl⟩))
  go_at_fn (ρ.f 285)
  refine hfmt.mono ?_
  rintro e w' ⟨rfl, k, v', dk, rfl, hF⟩
  have hcells : ∀ j u', (Lib.byteCells (Lib.decDigits u))[j]? = some u' → ((putRow (fun (b : UInt8) => Value.int .u8 (b.toNat : Int)) (w.alloc (.cells Lib.zeros24 (ρ.t 171))) w.heap.size 0 dk).drewN k).cell? ((⟨w.heap.size, 0, none⟩ : Addr).add j) = some u' := by
    intro j u' hj
    have hjl : j < (Lib.decDigits u).length := by
      have h5 := (List.getElem?_eq_some_iff.1 hj).1
      rwa [Lib.byteCells_length] at h5
    have e5 : (Lib.byteCells (Lib.decDigits u))[j]? = some (Value.int .u8 ((Lib.decDigits u)[j].toNat : Int)) := by simp [Lib.byteCells, hjl]
    rw [e5] at hj
    cases hj
    rw [Lib.row_is_numeral hF j hjl, Lib.add_plain, World.cell?_drewN]
    exact cell?_putRow (fun (b : UInt8) => Value.int .u8 (b.toNat : Int)) _ w.heap.size 0 _ dk HH0.out (by rw [hF.size, Array.size_replicate]) j (by rw [hF.size]; rw [Lib.decDigits_length] at hjl; exact hjl)
  obtain ⟨os, eo⟩ := Lib.fin_at w (.cells Lib.zeros24 (ρ.t 171)) dk k 0
  have hw : ∀ W, W = grow (w.drewN k) os → Byt W B (ρ.t 5) sv n xs ∧ Below B w W ∧ w.heap.size ≤ W.heap.size := by
    rintro W rfl
    exact ⟨HO.out.same fun g hg => Lib.heap_grow_old w k os g hg, Lib.below_grow B w hB k os, Lib.size_grow w k os⟩
  obtain ⟨hown2, hnx2, hsz2⟩ := hw _ eo
  generalize (putRow (fun (b : UInt8) => Value.int .u8 (b.toNat : Int)) (w.alloc (.cells Lib.zeros24 (ρ.t 171))) w.heap.size 0 dk).drewN k = W2 at hcells hown2 hnx2 hsz2 ⊢
  clear eo HH0 hfmt hw
  go_wp2_with (at_builtin; refine wpList_append_byt _ rfl _ _ (ρ.t 37) (ρ.t 37) rfl B (ρ.t 5) i0 L.t37 hi hz0 hz1 hz2 sv n xs rfl hown2 _ _ _ rfl (Src.ofSlice _ L.t37 ⟨w.heap.size, 0, none⟩ (Lib.nDigits u) 24 (Lib.byteCells (Lib.decDigits u)) ?c0 hcells ?c2) ?c3 ?c4 ?_)
  case c0 => rw [Lib.byteCells_length, Lib.decDigits_length, Nat.mul_one]
  case c2 => intro u' hu'; simp only [Lib.byteCells, List.mem_map] at hu'; obtain ⟨b, _, rfl⟩ := hu'; rfl
  case c3 => omega
  case c4 => omega
  intro v2 w3 hown' hgrow
  go_wp2
  go_ret
  rw [← Lib.decDigits_length] at hown'
  exact ⟨v2, rfl, hown', hnx2.grown hgrow (by omega) (fun k hk => (hown2.lt k hk).1)⟩

/-- The two as one. -/
theorem appUint_byt (L : LaysM.n288 P ρ) (B n u : Nat) (hu64 : u < 18446744073709551616) (sv : Value) (xs : List Value) (w : World) (hown : Byt w B (ρ.t 5) sv n xs) (hB : B ≤ w.heap.size) (hlim : n + 20 ≤ 140737488355328)
    (htab : Lib.TabIs P w "internal/strconv.uint64pow10" .u64 Lib.pow10Tab) :
    Calls P (ρ.f 288) #[sv, .int .u64 u, .int .i64 10] w fun e w' => ∃ v', e = .returned v' ∧ Byt w' B (ρ.t 5) v' (n + (Lib.decDigits u).length) (xs ++ Lib.byteCells (Lib.decDigits u)) ∧ Below B w w' := by
  by_cases h : u < 100
  · exact appUint_small { L with } B n u h sv xs w hown hB hlim
  · exact appUint_big { L with } B n u (by omega) hu64 sv xs w hown hB hlim htab

set_option maxHeartbeats 6400000 in
set_option maxRecDepth 100000 in
/-- internal/strconv.AppendInt of a number that is none below zero. -/
theorem appIntIn_byt (L : LaysM.n249 P ρ) (B n u : Nat) (hu : u < 9223372036854775808) (sv : Value) (xs : List Value) (w : World) (hown : Byt w B (ρ.t 5) sv n xs) (hB : B ≤ w.heap.size) (hlim : n + 20 ≤ 140737488355328)
    (htab : Lib.TabIs P w "internal/strconv.uint64pow10" .u64 Lib.pow10Tab) :
    Calls P (ρ.f 249) #[sv, .int .i64 (u : Int), .int .i64 10] w fun e w' => ∃ v', e = .returned v' ∧ Byt w' B (ρ.t 5) v' (n + (Lib.decDigits u).length) (xs ++ Lib.byteCells (Lib.decDigits u)) ∧ Below B w w' := by
  have mixed := L.mixed
  have t5 := L.t5; have a5 := L.a5; have z5 := L.z5; have v5 := L.v5
  have t37 := L.t37; have u37 := run_underlying L.t37; have a37 := L.a37; have z37 := L.z37; have v37 := L.v37
  have t2 := L.t2; have a2 := L.a2; have z2 := L.z2; have v2 := L.v2
  have t3 := L.t3; have a3 := L.a3; have z3 := L.z3; have v3 := L.v3
  have t53 := L.t53; have a53 := L.a53; have z53 := L.z53; have v53 := L.v53
  have t4 := L.t4; have a4 := L.a4; have z4 := L.z4; have v4 := L.v4
  have e288 : ∀ args w, (callFunc (ρ.f 288) args).run P w = .ok (.enter (ρ.f 288) args) w := enters_of L.f288 (by kernel_rfl) rfl
  have HO := Lib.hid hown
  clear hown
  go_enter L.f249, Body.n249_ntmps ρ
  go_wp2_with (go_at_fn (ρ.f 288); refine (appUint_byt { L with } B n u (by omega) sv xs w HO.out hB hlim htab).mono ?_; rintro e w2 ⟨v2, rfl, hown2, hnx2⟩)
  go_wp2
  first | go_ret | go_ret2
  exact ⟨v2, rfl, hown2, hnx2⟩

set_option maxRecDepth 100000 in
/-- strconv.AppendInt of a number that is none below zero. -/
theorem appInt_byt (L : LaysM.n176 P ρ) (B n u : Nat) (hu : u < 9223372036854775808) (sv : Value) (xs : List Value) (w : World) (hown : Byt w B (ρ.t 5) sv n xs) (hB : B ≤ w.heap.size) (hlim : n + 20 ≤ 140737488355328)
    (htab : Lib.TabIs P w "internal/strconv.uint64pow10" .u64 Lib.pow10Tab) :
    Calls P (ρ.f 176) #[sv, .int .i64 (u : Int), .int .i64 10] w fun e w' => ∃ v', e = .returned v' ∧ Byt w' B (ρ.t 5) v' (n + (Lib.decDigits u).length) (xs ++ Lib.byteCells (Lib.decDigits u)) ∧ Below B w w' := by
  have mixed := L.mixed
  have t5 := L.t5; have a5 := L.a5; have z5 := L.z5; have v5 := L.v5
  have t37 := L.t37; have u37 := run_underlying L.t37; have a37 := L.a37; have z37 := L.z37; have v37 := L.v37
  have t2 := L.t2; have a2 := L.a2; have z2 := L.z2; have v2 := L.v2
  have t3 := L.t3; have a3 := L.a3; have z3 := L.z3; have v3 := L.v3
  have e249 : ∀ args w, (callFunc (ρ.f 249) args).run P w = .ok (.enter (ρ.f 249) args) w := enters_of L.f249 (by kernel_rfl) rfl
  have HO := Lib.hid hown
  clear hown
  go_enter L.f176, Body.n176_ntmps ρ
  go_wp2_with (go_at_fn (ρ.f 249); refine (appIntIn_byt { L with } B n u hu sv xs w HO.out hB hlim htab).mono ?_; rintro e w2 ⟨v2, rfl, hown2, hnx2⟩)
  go_wp2
  go_ret
  exact ⟨v2, rfl, hown2, hnx2⟩

end Go.Proofs.YtepkicgnhjaokaaGreatDoor

namespace Go.Proofs.YtepkicgnhjaokaaGreatDoor
open Go.RowKit Go.Maps

/-- A new row of bytes is handed back. -/
def NewByt (l : List UInt8) (w : World) (e : Ending) (w' : World) : Prop :=
  ∃ v, e = .returned v ∧ Byt w' w.heap.size 5 v l.length (Lib.byteCells l) ∧ Below w.heap.size w w'

theorem byt_one {W : World} {T : TypeId} {k : Value} (B : Nat) (hB : B ≤ W.heap.size) : Byt (W.alloc (.cells #[k] T)) B T (.slice (some ⟨W.heap.size, 0, none⟩) 1 1) 1 [k] :=
  ⟨rfl, W.heap.size, 1, #[k], (0, 0), rfl, hB, heap_alloc_new W _, .inl rfl, Nat.le_refl _, by unfold maxLen; omega, rfl, rfl⟩

theorem digit_val (n : Nat) (h : n < 10) : (Value.int .u8 ((UInt8.ofNat (48 + n)).toNat : Int)) = Value.int .u8 (48 + (n : Int)) := by
  have : (UInt8.ofNat (48 + n)).toNat = 48 + n := by simp; omega
  rw [this]
  simp

end Go.Proofs.YtepkicgnhjaokaaGreatDoor

namespace Go.Proofs.YtepkicgnhjaokaaGreatDoor
open Go.RowKit Go.Maps

/-- ' ' and the digits, of each number. -/
def numsV : List Nat → List UInt8
  | [] => []
  | n :: r => 32 :: Lib.decDigits n ++ numsV r

theorem numsV_append : ∀ (l m : List Nat), numsV (l ++ m) = numsV l ++ numsV m
  | [], _ => rfl
  | n :: r, m => by simp only [List.cons_append, numsV, numsV_append r m, List.append_assoc]

theorem numsV_length : ∀ (l : List Nat) (_ : ∀ n ∈ l, n < 9223372036854775808), (numsV l).length ≤ 21 * l.length
  | [], _ => Nat.le_refl _
  | n :: r, h => by
    have h1 := digits20 n (by have := h n (by simp); omega)
    have h2 := numsV_length r (fun m hm => h m (by simp [hm]))
    simp only [numsV, List.length_append, List.length_cons]
    omega

theorem numsV_take (l : List Nat) (k : Nat) (hk : k < l.length) : numsV (l.take (k + 1)) = numsV (l.take k) ++ [32] ++ Lib.decDigits l[k] := by
  rw [List.take_succ_eq_append_getElem hk, numsV_append]
  simp [numsV]

theorem bcells_append (a b : List UInt8) : Lib.byteCells (a ++ b) = Lib.byteCells a ++ Lib.byteCells b := by simp [Lib.byteCells]

/-- strconv.AppendInt, here. -/
theorem appInt_here (B n u : Nat) (hu : u < 9223372036854775808) (sv : Value) (xs : List Value) (w : World) (hown : Byt w B 5 sv n xs) (hB : B ≤ w.heap.size) (hlim : n + 20 ≤ 140737488355328)
    (htab : Lib.TabIs Tryz.prog w "internal/strconv.uint64pow10" .u64 Lib.pow10Tab) :
    Calls Tryz.prog 61 #[sv, .int .i64 (u : Int), .int .i64 10] w fun e w' => ∃ v', e = .returned v' ∧ Byt w' B 5 v' (n + (Lib.decDigits u).length) (xs ++ Lib.byteCells (Lib.decDigits u)) ∧ Below B w w' :=
  appInt_byt laysM176 B n u hu sv xs w hown hB hlim htab

end Go.Proofs.YtepkicgnhjaokaaGreatDoor

namespace Go.Proofs.YtepkicgnhjaokaaGreatDoor
open Go.RowKit Go.Maps

/-- A file: its name, its value. -/
abbrev Fl := List UInt8 × Int
def sufx (d m : Int) : List UInt8 := 126 :: (Lib.decDigits d.toNat ++ 46 :: Lib.decDigits m.toNat)
def vwName (es : List En) (i : Nat) : List UInt8 := (es.getD i default).name ++ (if stB es i then [] else sufx (es.getD i default).dev (es.getD i default).num)
def vwF (es : List En) (i : Nat) : Fl := (vwName es i, (es.getD i default).val)
def vwE (es : List En) : List Fl := (List.range es.length).map (vwF es)
def vwL (vec : List Int) (es : List En) : List Fl := if treeB vec es then vwE es else []
theorem vwE_len (es : List En) : (vwE es).length = es.length := by simp [vwE]
theorem vwE_getD (es : List En) (i : Nat) (hi : i < es.length) : (vwE es).getD i ([], 0) = vwF es i := by
  simp [vwE, hi]

theorem Tryz.infoFile : (Tryz.prog.info? 97).map (fun i => (i.zero, i.size, i.bytes)) = some (some (.agg #[.slice none 0 0, .int .i64 0]), 2, 32) := by kernel_rfl

theorem NameAt.neF {w : World} {g base : Nat} {l : List UInt8} {v : Value} {n : Nat} {vs : List Value} (h : NameAt w g l) (ho : w.ownsRow base 97 2 v n vs) : v.ownBlock ≠ some g := by
  intro he
  obtain ⟨cur, fz, h1, _⟩ := h
  obtain ⟨_, ⟨rfl, _⟩ | ⟨R, cap, cur', rfl, _, hb, _⟩⟩ := ho
  · simp [Value.ownBlock] at he
  · simp [Value.ownBlock] at he
    subst he
    rw [hb] at h1
    simp at h1
theorem nameAt_byt {w : World} {B : Nat} {v : Value} {l : List UInt8} (h : Byt w B 5 v l.length (Lib.byteCells l)) : ∃ g c, v = .slice (some ⟨g, 0, none⟩) l.length c ∧ B ≤ g ∧ NameAt w g l := by
  obtain ⟨hl, g, cap, cur, fz, rfl, hB, hb, hf, hle, _, hsz, htk⟩ := h
  refine ⟨g, cap, rfl, hB, cur, fz, hb, ?_, fun j hj => ?_⟩
  · rcases hf with h | h
    · exact .inl h
    · exact .inr (by omega)
  · have hx : (cur.toList.take l.length)[j]? = (Lib.byteCells l)[j]? := by rw [htk]
    rw [List.getElem?_take, if_pos hj] at hx
    rw [← Array.getElem?_toList, hx]
    simp [Lib.byteCells, hj]

/-- What has been laid of the row of files. -/
structure FRel (w : World) (base : Nat) (fs : List Fl) (k : Nat) (vs : List Value) (G : List Nat) : Prop where
  gl : G.length = k
  vl : vs.length = k * 2
  cs : ∀ i, i < k → ∃ c, vs[i * 2]? = some (.slice (some ⟨G.getD i 0, 0, none⟩) (fs.getD i ([], 0)).1.length c) ∧ vs[i * 2 + 1]? = some (.int .i64 (fs.getD i ([], 0)).2)
  nm : ∀ i, i < k → base ≤ G.getD i 0 ∧ NameAt w (G.getD i 0) (fs.getD i ([], 0)).1
  inc : ∀ i j, i < j → j < k → G.getD i 0 < G.getD j 0

theorem FRel.nil (w : World) (base : Nat) (fs : List Fl) : FRel w base fs 0 [] [] :=
  ⟨rfl, rfl, fun i h => absurd h (by omega), fun i h => absurd h (by omega), fun i j _ h => absurd h (by omega)⟩
theorem FRel.keep {w w' : World} {base : Nat} {fs : List Fl} {k : Nat} {vs : List Value} {G : List Nat} (h : FRel w base fs k vs G) (hk : ∀ i, i < k → w'.heap[G.getD i 0]? = w.heap[G.getD i 0]?) : FRel w' base fs k vs G :=
  ⟨h.gl, h.vl, h.cs, fun i hi => ⟨(h.nm i hi).1, (h.nm i hi).2.keep (hk i hi)⟩, h.inc⟩
theorem FRel.add {w : World} {base : Nat} {fs : List Fl} {k : Nat} {vs : List Value} {G : List Nat} (h : FRel w base fs k vs G) {g c : Nat} {f : Fl} (he : fs.getD k ([], 0) = f) (hg : base ≤ g) (hn : NameAt w g f.1) (hlt : ∀ i, i < k → G.getD i 0 < g) :
    FRel w base fs (k + 1) (vs ++ [.slice (some ⟨g, 0, none⟩) f.1.length c, .int .i64 f.2]) (G ++ [g]) where
  gl := by simp [h.gl]
  vl := by simp [h.vl]; omega
  cs i hi := by
    have hv := h.vl
    by_cases hik : i < k
    · obtain ⟨c', h0, h1⟩ := h.cs i hik
      have hG : (G ++ [g]).getD i 0 = G.getD i 0 := by simp [List.getD, List.getElem?_append_left (show i < G.length by rw [h.gl]; exact hik)]
      rw [hG]
      exact ⟨c', by rw [List.getElem?_append_left (by omega)]; exact h0, by rw [List.getElem?_append_left (by omega)]; exact h1⟩
    · obtain rfl : i = k := by omega
      have hG : (G ++ [g]).getD i 0 = g := by simp [List.getD, h.gl]
      rw [hG, he]
      refine ⟨c, ?_, ?_⟩
      · rw [List.getElem?_append_right (by omega), hv, show i * 2 - i * 2 = 0 by omega]; rfl
      · rw [List.getElem?_append_right (by omega), hv, show i * 2 + 1 - i * 2 = 1 by omega]; rfl
  nm i hi := by
    by_cases hik : i < k
    · have hG : (G ++ [g]).getD i 0 = G.getD i 0 := by simp [List.getD, List.getElem?_append_left (show i < G.length by rw [h.gl]; exact hik)]
      rw [hG]
      exact h.nm i hik
    · obtain rfl : i = k := by omega
      have hG : (G ++ [g]).getD i 0 = g := by simp [List.getD, h.gl]
      rw [hG, he]
      exact ⟨hg, hn⟩
  inc i j hij hj := by
    have hG : (G ++ [g]).getD i 0 = G.getD i 0 := by simp [List.getD, List.getElem?_append_left (show i < G.length by rw [h.gl]; omega)]
    rw [hG]
    by_cases hjk : j < k
    · have hG2 : (G ++ [g]).getD j 0 = G.getD j 0 := by simp [List.getD, List.getElem?_append_left (show j < G.length by rw [h.gl]; exact hjk)]
      rw [hG2]
      exact h.inc i j hij hjk
    · obtain rfl : j = k := by omega
      have hG2 : (G ++ [g]).getD j 0 = g := by simp [List.getD, h.gl]
      rw [hG2]
      exact hlt i hij

/-- The i-th file of the row in block R; its name at N, within the blocks from lo to up. -/
structure FlCell (w : World) (R i : Nat) (N : Option Addr) (lo up c : Nat) (f : Fl) : Prop where
  c0 : w.cell? ⟨R, i * 2, none⟩ = some (.slice N f.1.length c)
  c1 : w.cell? ⟨R, i * 2 + 1, none⟩ = some (.int .i64 f.2)
  fr : ∀ o, o < 2 → w.frozen? ⟨R, i * 2 + o, none⟩ = false
  nm : BytesFr w lo up N f.1
theorem FlCell.keep {w w' : World} {R i lo up c : Nat} {N : Option Addr} {f : Fl} (h : FlCell w R i N lo up c f) (hR : ∀ o, w'.cell? ⟨R, o, none⟩ = w.cell? ⟨R, o, none⟩ ∧ w'.frozen? ⟨R, o, none⟩ = w.frozen? ⟨R, o, none⟩) (hg : ∀ p : Addr, lo ≤ p.block → p.block < up → w'.cell? p = w.cell? p ∧ w'.frozen? p = w.frozen? p) : FlCell w' R i N lo up c f where
  c0 := (hR _).1.trans h.c0
  c1 := (hR _).1.trans h.c1
  fr o ho := (hR _).2.trans (h.fr o ho)
  nm := h.nm.keep hg
/-- A list of files that was made. -/
def FsOwn (w : World) (L B : Nat) (A : Option Addr) (fs : List Fl) : Prop :=
  0 < fs.length → ∃ (R : Nat) (N : Nat → Option Addr) (lo up c : Nat → Nat), A = some ⟨R, 0, none⟩ ∧ ELay L B R fs.length lo up ∧ ∀ i (hi : i < fs.length), FlCell w R i (N i) (lo i) (up i) (c i) fs[i]
theorem FsOwn.keep {w w' : World} {L B : Nat} {A : Option Addr} {fs : List Fl} (h : FsOwn w L B A fs) (hk : ∀ p : Addr, L ≤ p.block → p.block < B → w'.cell? p = w.cell? p ∧ w'.frozen? p = w.frozen? p) : FsOwn w' L B A fs := fun hl => by
  obtain ⟨R, N, lo, up, c, e, hlay, hc⟩ := h hl
  exact ⟨R, N, lo, up, c, e, hlay, fun i hi => (hc i hi).keep (fun o => hk _ hlay.low hlay.up) (fun p hp hq => hk p (Nat.le_trans (hlay.at_ i hi).1 hp) (Nat.lt_of_lt_of_le hq (hlay.at_ i hi).2.1))⟩
theorem FsOwn.mono {w : World} {L L' B B' : Nat} {A : Option Addr} {fs : List Fl} (h : FsOwn w L B A fs) (hL : L' ≤ L) (hB : B ≤ B') : FsOwn w L' B' A fs := fun hl => by
  obtain ⟨R, N, lo, up, c, e, hlay, hc⟩ := h hl
  exact ⟨R, N, lo, up, c, e, hlay.mono hL hB, hc⟩
theorem FsOwn.nil {w : World} {L B : Nat} {A : Option Addr} : FsOwn w L B A [] := fun h => absurd h (by simp)

theorem FRel.own {w : World} {base : Nat} {fs : List Fl} {vs : List Value} {G : List Nat} {A : Option Addr} {c : Nat} (h : FRel w base fs fs.length vs G) (ho : w.ownsRow base 97 2 (.slice A fs.length c) fs.length vs) : FsOwn w base w.heap.size A fs := fun hl => by
  have ho' := ho
  obtain ⟨_, hh | ⟨R, cap, cur, hv, hR, hb, _, _, _, htk⟩⟩ := ho
  · omega
  injection hv with h1 _ _
  subst h1
  have hch := h.cs
  obtain ⟨C, hC⟩ : ∃ C : Nat → Nat, ∀ i, i < fs.length → (vs[i * 2]? = some (.slice (some ⟨G.getD i 0, 0, none⟩) (fs.getD i ([], 0)).1.length (C i)) ∧ vs[i * 2 + 1]? = some (.int .i64 (fs.getD i ([], 0)).2)) :=
    ⟨fun i => if h : i < fs.length then Classical.choose (hch i h) else 0, fun i hi => by simp only [hi, dif_pos]; exact Classical.choose_spec (hch i hi)⟩
  have hne : ∀ i, i < fs.length → G.getD i 0 ≠ R := fun i hi e => (h.nm i hi).2.neF ho' (show some R = some (G.getD i 0) from congrArg some e.symm)
  refine ⟨R, fun i => some ⟨G.getD i 0, 0, none⟩, fun i => G.getD i 0, fun i => G.getD i 0 + 1, C, rfl, ⟨hR, (Array.getElem?_eq_some_iff.1 hb).1, fun i hi => ⟨(h.nm i hi).1, (h.nm i hi).2.lt, show R < G.getD i 0 ∨ G.getD i 0 + 1 ≤ R by have := hne i hi; omega⟩, fun i j hij hj => .inl (show G.getD i 0 + 1 ≤ G.getD j 0 from h.inc i j hij hj)⟩, fun i hi => ?_⟩
  obtain ⟨c0, c1⟩ := hC i hi
  have hgd : fs.getD i ([], 0) = fs[i] := by simp [hi]
  rw [hgd] at c0 c1
  have hnm := (h.nm i hi).2
  rw [hgd] at hnm
  have hcell : ∀ o u, o < 2 → vs[i * 2 + o]? = some u → w.cell? ⟨R, i * 2 + o, none⟩ = some u := fun o u ho hu => by
    rw [← htk, List.getElem?_take, if_pos (by omega)] at hu
    rw [World.cell?, hb]
    simpa using hu
  exact ⟨hcell 0 _ (by omega) c0, hcell 1 _ (by omega) c1, fun o _ => by simp [World.frozen?, hb], hnm.fr⟩

/-- Files are handed back. -/
def NewFs (fs : List Fl) (w : World) (e : Ending) (w' : World) : Prop :=
  ∃ A c, e = .returned (.slice A fs.length c) ∧ FsOwn w' w.heap.size w'.heap.size A fs ∧ Below w.heap.size w w'

end Go.Proofs.YtepkicgnhjaokaaGreatDoor

namespace Go.Proofs.YtepkicgnhjaokaaGreatDoor
open Go.RowKit Go.Maps

theorem new2F (w : World) (v0 v1 : Value) (t : TypeId) : ∀ j u, [v0, v1][j]? = some u → (w.alloc (.cells #[v0, v1] t)).cell? ((⟨w.heap.size, 0, none⟩ : Addr).add j) = some u := by
  intro j u hu
  have h := heap_alloc_new w (.cells #[v0, v1] t)
  rw [Addr.add_lit, Nat.zero_add, World.cell?, h]
  simpa using hu
theorem vw_nums {vec : List Int} {es : List En} (h : treeB vec es = true) : ∀ e ∈ es, 0 ≤ e.dev ∧ e.dev < 4 ∧ 0 ≤ e.num ∧ e.num ≤ 1000 := by
  intro e he
  unfold treeB at h
  simp only [Bool.and_eq_true, decide_eq_true_eq] at h
  obtain ⟨⟨⟨hv, _⟩, _⟩, ht⟩ := h
  obtain ⟨a, b, c, d, rfl⟩ := vecB_four hv
  obtain ⟨i, hi, rfl⟩ := List.getElem_of_mem he
  unfold tokB at ht
  simp only [Bool.and_eq_true, List.all_eq_true, List.mem_range] at ht
  have h1 := ht.2 i hi
  unfold goodB at h1
  simp only [Bool.and_eq_true] at h1
  have h2 := h1.1.1
  rw [show es.getD i default = es[i] by simp [hi]] at h2
  unfold fitB devB knowB at h2
  simp only [Bool.and_eq_true, decide_eq_true_eq] at h2
  have h3 := h2.2
  have hall : ∀ x ∈ [a, b, c, d], x ≤ 1000 := fun x hx => by
    unfold vecB at hv
    simp only [Bool.and_eq_true, List.all_eq_true, decide_eq_true_eq] at hv
    exact (hv.2 x hx).2
  have ha := hall a (by simp)
  have hb := hall b (by simp)
  have hc := hall c (by simp)
  have hd := hall d (by simp)
  refine ⟨h2.1.1.2.1, h2.1.1.2.2, by omega, ?_⟩
  unfold nth4 at h3
  simp only [List.getD_cons_zero, List.getD_cons_succ] at h3
  split at h3
  · omega
  · split at h3
    · omega
    · split at h3 <;> omega
theorem vwName_true {es : List En} {k : Nat} (h : stB es k = true) : vwName es k = (es.getD k default).name := by simp [vwName, h]
theorem vwName_false {es : List En} {k : Nat} (h : stB es k = false) : vwName es k = (es.getD k default).name ++ sufx (es.getD k default).dev (es.getD k default).num := by simp [vwName, h]

set_option maxRecDepth 100000 in
set_option maxHeartbeats 4000000 in
theorem implView_any (AV : Option Addr) (vec : List Int) (cv : Nat) (A : Option Addr) (es : List En) (c : Nat) (w : World) (hV : IntsIn w 0 w.heap.size AV vec) (hA : EnsIn w 0 w.heap.size A es) (_hv : vec.length ≤ 1048576) (hn : es.length ≤ 1048576) (hbk : ebulk es ≤ 1048576) (htab : Lib.TabIs Tryz.prog w "internal/strconv.uint64pow10" .u64 Lib.pow10Tab) :
    Calls Tryz.prog 30 #[.agg #[.slice AV vec.length cv, .slice A es.length c]] w (NewFs (vwL vec es) w) := by
  have HV := Lib.hid hV
  have HA := Lib.hid hA
  have HTab := Lib.hid (Lib.tabBelow_of_tabIs htab)
  have HNum := Lib.hid (@vw_nums vec es)
  have HL12 := Lib.hid (@treeB_len' vec es)
  have HVl := Lib.hid (show vwL vec es = (if treeB vec es then vwE es else []) from rfl)
  clear hV hA htab
  go_enter Tryz.func30, Tryz.ntmps30
  go_wp2_with fail
  obtain ⟨W0, hW0⟩ : ∃ W0, W0 = w.alloc (.cells #[.slice AV vec.length cv, .slice A es.length c] 26) := ⟨_, rfl⟩
  have hb0 : Below w.heap.size w W0 := by rw [hW0]; exact (Below.refl _ _).alloc (Nat.le_refl _) _
  have hz0 : w.heap.size < W0.heap.size := by rw [hW0]; simp
  have HB0 := Lib.hid hb0
  rw [← hW0]
  clear hW0 hb0
  refine (readTree_any AV vec cv A es c W0 ((HV.out.keep fun p _ hp => HB0.out.cell hp).mono (by omega)) ((HA.out.below HB0.out).mono (by omega)) hn hbk).mono ?_
  rintro r w1 ⟨x0, x1, x2, x3, E1, n1, k1, rfl, ht1, hb1⟩
  have HT1 := Lib.hid ht1
  have HB1 := Lib.hid (show Below w.heap.size w w1 from HB0.out.trans (hb1.mono (by omega)))
  have hz1 := hb1.size
  clear ht1 hb1
  obtain ⟨tb, htb⟩ : ∃ tb, tb = treeB vec es := ⟨_, rfl⟩
  rw [← htb] at HT1 HNum HVl HL12 ⊢
  clear htb
  cases tb with
  | false =>
    have HB2 := Lib.hid (show Below w.heap.size w (w1.alloc (.cells #[.int .i64 x0, .int .i64 x1, .int .i64 x2, .int .i64 x3, .slice E1 n1 k1] 66)) from HB1.out.alloc (by omega) _)
    go_wp2_with fail
    go_ret
    rw [HVl.out]
    exact ⟨none, 0, rfl, FsOwn.nil, HB2.out⟩
  | true =>
  obtain ⟨rfl, rfl, hev⟩ := HT1.out rfl
  have hnum := HNum.out rfl
  have HN := Lib.hid hnum
  have hl12 := HL12.out rfl
  obtain ⟨W, hW⟩ : ∃ W, W = w1.alloc (.cells #[.int .i64 x0, .int .i64 x1, .int .i64 x2, .int .i64 x3, .slice E1 es.length k1] 66) := ⟨_, rfl⟩
  have hbW : Below w1.heap.size w1 W := by rw [hW]; exact (Below.refl _ _).alloc (Nat.le_refl _) _
  have hzW : w1.heap.size < W.heap.size := by rw [hW]; simp
  have HX := Lib.hid (show Bx W w1.heap.size [.int .i64 x0, .int .i64 x1, .int .i64 x2, .int .i64 x3, .slice E1 es.length k1] by rw [hW]; exact Bx.new' _ _ _ _ rfl)
  have HE := Lib.hid (show EvsIn W 0 W.heap.size E1 es from ((hev.keep fun p _ hp => hbW.cell hp).low (Nat.zero_le _)).mono (by omega))
  have HB := Lib.hid (show Below w.heap.size w W from HB1.out.trans (hbW.mono (by omega)))
  have i4 : W.cell? ⟨w1.heap.size, 4, none⟩ = some (.slice E1 es.length k1) := HX.out 4 (by simp)
  have h12 := HVl.out
  have HVl2 := Lib.hid (show vwL [x0, x1, x2, x3] es = vwE es from by rw [HVl.out]; rfl)
  clear hev hbW hnum HT1 HNum h12 HVl
  go_upto_region 4 with fail
  rw [← hW]
  clear hW
  obtain ⟨i0, hi, hq0, hq1, hq2⟩ := info_parts (show (Tryz.prog.info? 5).map (fun i => (i.zero, i.size, i.bytes)) = some (some (.int .u8 0), 1, 1) by kernel_rfl)
  go_wp2_with fail
  clear i4
  go_loopw [5, 19] (fun x i wr => ∃ (k : Nat) (A' : Option Addr) (c' : Nat) (vs : List Value) (G : List Nat), k ≤ es.length ∧ i = .int .i64 k ∧ x = .slice A' k c' ∧ wr.ownsRow W.heap.size 97 2 (.slice A' k c') k vs ∧ FRel wr W.heap.size (vwE es) k vs G ∧ Below W.heap.size W wr ∧ W.heap.size ≤ wr.heap.size) (fun _ i _ => es.length - (intOf i).toNat)
  case atStart => exact ⟨0, none, 0, [], [], Nat.zero_le _, rfl, rfl, World.ownsRow_nil _ _ _ _, FRel.nil _ _ _, Below.refl _ _, Nat.le_refl _⟩
  case round =>
    obtain ⟨k, A', c', vs, G, hk, rfl, rfl, hown, hout, hbel, hzr⟩ := hrel
    have HOwn := Lib.hid hown
    have HOut := Lib.hid hout
    have HBr := Lib.hid hbel
    have HO := Lib.hid (HB.out.trans (hbel.mono (by omega)))
    clear hown hout hbel
    by_cases hlt : k < es.length
    · obtain ⟨bA, oA, hAe, _, hbA, hcA⟩ := HE.out (by omega)
      obtain ⟨c0, c1, c2, c3⟩ := (hcA k hlt).keep (w' := wr) fun o => HBr.out.cell hbA
      obtain ⟨e, he⟩ : ∃ e, e = es[k] := ⟨_, rfl⟩
      rw [← he] at c0 c1 c2 c3
      have HEe := Lib.hid (show es.getD k default = e by rw [he]; simp [hlt])
      have hnu := HN.out es[k] (List.getElem_mem hlt)
      rw [← he] at hnu
      subst hAe
      clear hcA he
      obtain ⟨n1, v1, d1, m1⟩ := e
      simp only at c0 c1 c2 c3 hnu
      obtain ⟨hd0, hd4, hm0, hm1⟩ := hnu
      obtain ⟨du, rfl⟩ := Int.eq_ofNat_of_zero_le hd0
      obtain ⟨mu, rfl⟩ := Int.eq_ofNat_of_zero_le hm0
      have hlt' : (k : Int) < (es.length : Int) := by omega
      obtain ⟨W7, hW7⟩ : ∃ W7, W7 = wr.alloc (.cells #[.string ⟨n1.toArray⟩, .int .i64 v1, .int .i64 (du : Int), .int .i64 (mu : Int)] 74) := ⟨_, rfl⟩
      have hb7 : Below wr.heap.size wr W7 := by rw [hW7]; exact (Below.refl _ _).alloc (Nat.le_refl _) _
      have hz7 : wr.heap.size < W7.heap.size := by rw [hW7]; simp
      have HZ7 := Lib.hid (show Bx W7 wr.heap.size [.string ⟨n1.toArray⟩, .int .i64 v1, .int .i64 (du : Int), .int .i64 (mu : Int)] by rw [hW7]; exact Bx.new' _ _ _ _ rfl)
      have HB7 := Lib.hid hb7
      go_upto_region 8 with fail
      rw [← hW7]
      clear hW7 hb7 c0 c1 c2 c3
      have hcv := run_bytes_of_string (P := Tryz.prog) W7 9 22 5 ⟨n1.toArray⟩ Tryz.underlying9 Tryz.underlying22 Tryz.underlying5
      have hnl : n1.length ≤ 1048576 := by
        have := name_le_ebulk es k hlt
        have h2 := HEe.out
        rw [show es[k] = es.getD k default by simp [hlt], h2] at this
        exact Nat.le_trans this hbk
      have hss : ByteArray.size ⟨n1.toArray⟩ = n1.length := by simp [ByteArray.size]
      have hby := Byt.ofString W7 5 ⟨n1.toArray⟩ (Nat.le_refl W7.heap.size) (by rw [hss]; unfold maxLen; omega)
      have hb9 : Below W7.heap.size W7 (W7.drew.alloc (.cells (bytesRow ⟨n1.toArray⟩ (grownCap W7 (ByteArray.size ⟨n1.toArray⟩) 0 5)) 5 ((bytesRow ⟨n1.toArray⟩ (grownCap W7 (ByteArray.size ⟨n1.toArray⟩) 0 5)).size, (bytesRow ⟨n1.toArray⟩ (grownCap W7 (ByteArray.size ⟨n1.toArray⟩) 0 5)).size + 1))) := (Below.refl _ W7).drew.alloc (Nat.le_refl _) _
      obtain ⟨W9, hW9⟩ : ∃ X, X = W7.drew.alloc (.cells (bytesRow ⟨n1.toArray⟩ (grownCap W7 (ByteArray.size ⟨n1.toArray⟩) 0 5)) 5 ((bytesRow ⟨n1.toArray⟩ (grownCap W7 (ByteArray.size ⟨n1.toArray⟩) 0 5)).size, (bytesRow ⟨n1.toArray⟩ (grownCap W7 (ByteArray.size ⟨n1.toArray⟩) 0 5)).size + 1)) := ⟨_, rfl⟩
      rw [← hW9] at hcv hby hb9
      rw [hss] at hcv hby
      have HBy9 := Lib.hid hby
      have HB9 := Lib.hid hb9
      have z0 := HZ7.out 0 (by simp)
      have x0' := (HBr.out.trans (HB7.out.mono hzr)).cell (p := ⟨w1.heap.size, 0, none⟩) hzW
      simp only [List.getElem_cons_zero] at z0
      clear hW9 hby hb9 hss x0'
      have HXr := Lib.hid ((HX.out.below HBr.out hzW).below HB7.out (by omega))
      have HX9 := Lib.hid (HXr.out.below HB9.out (by omega))
      have HZ9 := Lib.hid (HZ7.out.below HB9.out hz7)
      have hz9 := HB9.out.size
      have p0 := HX9.out 0 (by simp)
      have p1 := HX9.out 1 (by simp)
      have p2 := HX9.out 2 (by simp)
      have p3 := HX9.out 3 (by simp)
      have p4 := HX9.out 4 (by simp)
      simp only [List.getElem_cons_succ, List.getElem_cons_zero] at p0 p1 p2 p3 p4
      go_wp2_with fail
      clear hcv z0
      refine (startsName_any x0 x1 x2 x3 (some ⟨bA, oA, none⟩) es k1 k W9 ((HE.out.keep fun p _ hp => ((HBr.out.trans (HB7.out.mono hzr)).trans (HB9.out.mono (by omega))).cell hp).mono (by omega)) hlt hl12).mono ?_
      rintro r w10 ⟨rfl, hb10⟩
      have HB10 := Lib.hid (show Below W7.heap.size W7 w10 from HB9.out.trans (hb10.mono (by omega)))
      have HBy10 := Lib.hid (HBy9.out.same fun g hg => hb10.block g hg)
      have hz10 := HB10.out.size
      clear hb10 p0 p1 p2 p3 p4
      obtain ⟨sb, hsb⟩ : ∃ b, b = stB es k := ⟨_, rfl⟩
      rw [← hsb]
      have HSb := Lib.hid hsb
      clear hsb
      cases sb with
      | true =>
        have HNmE := Lib.hid (show vwName es k = n1 by rw [vwName_true HSb.out.symm, HEe.out])
        have HByE := Lib.hid (show Byt w10 W7.heap.size 5 _ (vwName es k).length (Lib.byteCells (vwName es k)) by rw [HNmE.out]; exact HBy10.out)
        have HBE := Lib.hid HB10.out
        have HZe := Lib.hid (HZ7.out.below HBE.out hz7)
        have e1 := HZe.out 1 (by simp)
        simp only [List.getElem_cons_succ, List.getElem_cons_zero] at e1
        obtain ⟨nm, hnm0⟩ : ∃ y, y = vwName es k := ⟨_, rfl⟩
        rw [← hnm0] at HByE
        have HNm0 := Lib.hid hnm0
        obtain ⟨g, cg, hve, hgB, hnm⟩ := nameAt_byt HByE.out
        have HNm := Lib.hid hnm
        have hzE := HBE.out.size
        have HBrE := Lib.hid (show Below wr.heap.size wr w10 from HB7.out.trans (HBE.out.mono (by omega)))
        have HOwnE := Lib.hid (ownsRow_below HOwn.out HBrE.out fun g hg => (HOwn.out.lt g hg).2)
        have HOutE := Lib.hid (show FRel w10 W.heap.size (vwE es) k vs G from HOut.out.keep fun i hi => HBrE.out.block _ (HOut.out.nm i hi).2.lt)
        obtain ⟨i1, hi1, hy0, hy1, hy2⟩ := info_parts Tryz.infoFile
        clear hnm0 hnm
        injection hve with hve1 _ hve3
        injection hve1 with hve1
        injection hve1 with hve1 _ _
        subst hve1
        subst hve3
        have hn1 : nm = n1 := by rw [HNm0.out, HNmE.out]
        subst hn1
        go_wp2_with (at_builtin; refine wpList_append_own _ rfl _ _ 54 rfl W.heap.size 97 i1 (.agg #[.slice none 0 0, .int .i64 0]) 2 32 Tryz.underlying54 hi1 hy0 hy1 hy2 rfl (by decide) _ _ _ rfl (HOwnE.out.alloc _) ⟨w10.heap.size, 0, none⟩ 1 1 [.slice (some ⟨W7.heap.size, 0, none⟩) nm.length (grownCap W7 nm.length 0 5), .int .i64 v1] rfl rfl ?c1 ?c2 ?c3 ?c4 ?c5 ?_)
        case c1 => exact new2F _ _ _ _
        case c2 => intro u hu; simp at hu; rcases hu with rfl | rfl <;> rfl
        case c3 => unfold maxLen; omega
        case c4 => omega
        case c5 => first | omega | (simp; omega)
        intro v' w5 hrow5 hgr5 _
        obtain ⟨A5, c5, rfl⟩ := row_shapeN hrow5
        have HRow5 := Lib.hid hrow5
        have hz9a : w10.heap.size + 1 ≤ w5.heap.size := by simpa using hgr5.size
        have HOut5 := Lib.hid (show FRel w5 W.heap.size (vwE es) k vs G from HOutE.out.keep fun i hi => by
          have hlt9 := (HOutE.out.nm i hi).2.lt
          have hne := (HOutE.out.nm i hi).2.neF HOwnE.out
          rw [hgr5.block _ (by rw [World.size_alloc]; omega) (fun e => hne e.symm), heap_alloc_old _ _ hlt9])
        have HNm5 := Lib.hid (show NameAt w5 W7.heap.size nm from HNm.out.keep (by
          have hne := HNm.out.neF HOwnE.out
          rw [hgr5.block _ (by rw [World.size_alloc]; have := HNm.out.lt; omega) (fun e => hne e.symm), heap_alloc_old _ _ HNm.out.lt]))
        have HB5 := Lib.hid (((HBr.out.trans (HBrE.out.mono hzr)).alloc (by omega) (.cells #[.slice (some ⟨W7.heap.size, 0, none⟩) nm.length (grownCap W7 nm.length 0 5), .int .i64 v1] 97)).grown hgr5 (by simp; omega) (fun g hg => (HOwnE.out.lt g hg).1))
        clear hrow5 hgr5 e1
        go_wp2_with fail
        go_roundw
        case rel =>
          exact ⟨k + 1, A5, c5, _, _, by omega, by go_num, rfl, HRow5.out, HOut5.out.add (f := (nm, v1)) (c := (grownCap W7 nm.length 0 5)) (by rw [vwE_getD es k hlt]; unfold vwF; rw [HEe.out, HNm0.out]) (by omega) HNm5.out fun i hi => by have := (HOut.out.nm i hi).2.lt; omega, HB5.out, by omega⟩
        case measure => simp [intOf]; omega
      | false =>
        have HNmE := Lib.hid (show vwName es k = n1 ++ sufx du mu by rw [vwName_false HSb.out.symm, HEe.out])
        have hdd := digits20 du (by omega)
        have hmd := digits20 mu (by omega)
        go_wp2_with (at_builtin; refine wpList_append_byt _ rfl _ _ 22 22 rfl W7.heap.size 5 i0 Tryz.underlying22 hi hq0 hq1 hq2 _ _ _ rfl (HBy10.out.alloc _) _ 1 [.int .u8 126] rfl (Src.ofSlice _ Tryz.underlying22 ⟨w10.heap.size, 0, none⟩ 1 1 _ rfl ?c1 ?c2) ?c3 ?c4 ?_)
        case c1 => intro j u hj; match j, hj with | 0, hj => simp at hj; subst hj; simp [Addr.add]
        case c2 => intro u hu; simp at hu; subst hu; rfl
        case c3 => omega
        case c4 => simp; omega
        intro s11 w11 hbx hgx
        have HBy11 := Lib.hid hbx
        have HB11 := Lib.hid ((HB10.out.alloc (by omega) _).grown hgx (by simp; omega) (fun g hg => (HBy10.out.lt g hg).1))
        have hz11 := HB11.out.size
        clear hbx hgx
        have HZ12 := Lib.hid (HZ7.out.below HB11.out hz7)
        have a2 := HZ12.out 2 (by simp)
        simp only [List.getElem_cons_succ, List.getElem_cons_zero] at a2
        go_wp2_with fail
        refine (appInt_here W7.heap.size _ du (by omega) s11 _ w11 HBy11.out HB11.out.size ?d1 (HTab.out _ (HO.out.trans ((HB7.out.trans (HB11.out.mono (by omega))).mono (by omega))))).mono ?_
        case d1 => omega
        rintro e w12 ⟨s12, rfl, hbx, hbelx⟩
        have HBy12 := Lib.hid hbx
        have HB12 := Lib.hid (HB11.out.trans hbelx)
        have hz12 := HB12.out.size
        clear hbx hbelx a2
        go_wp2_with (at_builtin; refine wpList_append_byt _ rfl _ _ 22 22 rfl W7.heap.size 5 i0 Tryz.underlying22 hi hq0 hq1 hq2 _ _ _ rfl (HBy12.out.alloc _) _ 1 [.int .u8 46] rfl (Src.ofSlice _ Tryz.underlying22 ⟨w12.heap.size, 0, none⟩ 1 1 _ rfl ?c1 ?c2) ?c3 ?c4 ?_)
        case c1 => intro j u hj; match j, hj with | 0, hj => simp at hj; subst hj; simp [Addr.add]
        case c2 => intro u hu; simp at hu; subst hu; rfl
        case c3 => omega
        case c4 => simp; omega
        intro s13 w13 hbx hgx
        have HBy13 := Lib.hid hbx
        have HB13 := Lib.hid ((HB12.out.alloc (by omega) _).grown hgx (by simp; omega) (fun g hg => (HBy12.out.lt g hg).1))
        have hz13 := HB13.out.size
        clear hbx hgx
        have HZ14 := Lib.hid (HZ7.out.below HB13.out hz7)
        have a2 := HZ14.out 3 (by simp)
        simp only [List.getElem_cons_succ, List.getElem_cons_zero] at a2
        go_wp2_with fail
        refine (appInt_here W7.heap.size _ mu (by omega) s13 _ w13 HBy13.out HB13.out.size ?d1 (HTab.out _ (HO.out.trans ((HB7.out.trans (HB13.out.mono (by omega))).mono (by omega))))).mono ?_
        case d1 => omega
        rintro e w14 ⟨s14, rfl, hbx, hbelx⟩
        have HBy14 := Lib.hid hbx
        have HB14 := Lib.hid (HB13.out.trans hbelx)
        have hz14 := HB14.out.size
        clear hbx hbelx a2
        have HByE := Lib.hid (show Byt w14 W7.heap.size 5 s14 (vwName es k).length (Lib.byteCells (vwName es k)) by
          have h := HBy14.out
          rw [HNmE.out]
          have hsx : n1 ++ sufx du mu = n1 ++ [126] ++ Lib.decDigits du ++ [46] ++ Lib.decDigits mu := by simp [sufx]
          have hL : (n1 ++ [126] ++ Lib.decDigits du ++ [46] ++ Lib.decDigits mu).length = n1.length + 1 + (Lib.decDigits du).length + 1 + (Lib.decDigits mu).length := by simp; omega
          have hX : Lib.byteCells (n1 ++ [126] ++ Lib.decDigits du ++ [46] ++ Lib.decDigits mu) = Lib.byteCells n1 ++ [.int .u8 126] ++ Lib.byteCells (Lib.decDigits du) ++ [.int .u8 46] ++ Lib.byteCells (Lib.decDigits mu) := by
            rw [bcells_append, bcells_append, bcells_append, bcells_append]
            rfl
          rw [hsx, hL, hX]
          simpa only [List.append_assoc, List.cons_append, List.nil_append, cells_of_digits] using h)
        have HBE := Lib.hid HB14.out
        have HZe := Lib.hid (HZ7.out.below HBE.out hz7)
        have e1 := HZe.out 1 (by simp)
        simp only [List.getElem_cons_succ, List.getElem_cons_zero] at e1
        obtain ⟨nm, hnm0⟩ : ∃ y, y = vwName es k := ⟨_, rfl⟩
        rw [← hnm0] at HByE
        have HNm0 := Lib.hid hnm0
        obtain ⟨g, cg, hve, hgB, hnm⟩ := nameAt_byt HByE.out
        have HNm := Lib.hid hnm
        have hzE := HBE.out.size
        have HBrE := Lib.hid (show Below wr.heap.size wr w14 from HB7.out.trans (HBE.out.mono (by omega)))
        have HOwnE := Lib.hid (ownsRow_below HOwn.out HBrE.out fun g hg => (HOwn.out.lt g hg).2)
        have HOutE := Lib.hid (show FRel w14 W.heap.size (vwE es) k vs G from HOut.out.keep fun i hi => HBrE.out.block _ (HOut.out.nm i hi).2.lt)
        obtain ⟨i1, hi1, hy0, hy1, hy2⟩ := info_parts Tryz.infoFile
        clear hnm0 hnm
        subst hve
        go_wp2_with (at_builtin; refine wpList_append_own _ rfl _ _ 54 rfl W.heap.size 97 i1 (.agg #[.slice none 0 0, .int .i64 0]) 2 32 Tryz.underlying54 hi1 hy0 hy1 hy2 rfl (by decide) _ _ _ rfl (HOwnE.out.alloc _) ⟨w14.heap.size, 0, none⟩ 1 1 [.slice (some ⟨g, 0, none⟩) nm.length cg, .int .i64 v1] rfl rfl ?c1 ?c2 ?c3 ?c4 ?c5 ?_)
        case c1 => exact new2F _ _ _ _
        case c2 => intro u hu; simp at hu; rcases hu with rfl | rfl <;> rfl
        case c3 => unfold maxLen; omega
        case c4 => omega
        case c5 => first | omega | (simp; omega)
        intro v' w5 hrow5 hgr5 _
        obtain ⟨A5, c5, rfl⟩ := row_shapeN hrow5
        have HRow5 := Lib.hid hrow5
        have hz9a : w14.heap.size + 1 ≤ w5.heap.size := by simpa using hgr5.size
        have HOut5 := Lib.hid (show FRel w5 W.heap.size (vwE es) k vs G from HOutE.out.keep fun i hi => by
          have hlt9 := (HOutE.out.nm i hi).2.lt
          have hne := (HOutE.out.nm i hi).2.neF HOwnE.out
          rw [hgr5.block _ (by rw [World.size_alloc]; omega) (fun e => hne e.symm), heap_alloc_old _ _ hlt9])
        have HNm5 := Lib.hid (show NameAt w5 g nm from HNm.out.keep (by
          have hne := HNm.out.neF HOwnE.out
          rw [hgr5.block _ (by rw [World.size_alloc]; have := HNm.out.lt; omega) (fun e => hne e.symm), heap_alloc_old _ _ HNm.out.lt]))
        have HB5 := Lib.hid (((HBr.out.trans (HBrE.out.mono hzr)).alloc (by omega) (.cells #[.slice (some ⟨g, 0, none⟩) nm.length cg, .int .i64 v1] 97)).grown hgr5 (by simp; omega) (fun g hg => (HOwnE.out.lt g hg).1))
        clear hrow5 hgr5 e1
        go_wp2_with fail
        go_roundw
        case rel =>
          exact ⟨k + 1, A5, c5, _, _, by omega, by go_num, rfl, HRow5.out, HOut5.out.add (f := (nm, v1)) (c := cg) (by rw [vwE_getD es k hlt]; unfold vwF; rw [HEe.out, HNm0.out]) (by omega) HNm5.out fun i hi => by have := (HOut.out.nm i hi).2.lt; omega, HB5.out, by omega⟩
        case measure => simp [intOf]; omega
    · have hke : k = es.length := by omega
      have HFs := Lib.hid (show FsOwn wr W.heap.size wr.heap.size A' (vwE es) by
        have h := HOut.out
        have ho := HOwn.out
        rw [hke] at h ho
        have hl := vwE_len es
        rw [← hl] at h ho
        exact h.own ho)
      have HK := Lib.hid (show (vwE es).length = k by rw [vwE_len, hke])
      have hlt' : ¬ ((k : Int) < (es.length : Int)) := by omega
      clear hke
      go_wp2_with fail
      go_ret
      rw [HVl2.out]
      exact ⟨A', c', by rw [HK.out]; rfl, HFs.out.mono (by have := HB.out.size; omega) (Nat.le_refl _), HO.out⟩

end Go.Proofs.YtepkicgnhjaokaaGreatDoor
