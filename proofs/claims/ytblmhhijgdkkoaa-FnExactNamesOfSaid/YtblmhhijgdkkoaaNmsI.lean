/-
  The names that the program's NamesOf gives, each in a block of its own.
-/
import Derived.Test.YtblmhhijgdkkoaaNamesI
import Derived.Test.YtblmhhijgdkkoaaOut
import Derived.Test.YtblmhhijgdkkoaaBss
namespace Go.Proofs.Ytblmhhijgdkkoaa
open Go.RowKit Go.Maps

/-- The names of those of the first k entries that are the first by their names. -/
def nmL (es : List En) (k : Nat) : List (List UInt8) := ((List.range k).filter (stB es)).map fun i => (es.getD i default).name
theorem nmL_succ (es : List En) (k : Nat) : nmL es (k + 1) = nmL es k ++ (if stB es k then [(es.getD k default).name] else []) := by
  unfold nmL
  rw [List.range_succ, List.filter_append, List.map_append]
  congr 1
  by_cases h : stB es k <;> simp [h]
theorem nmL_le (es : List En) (k : Nat) : (nmL es k).length ≤ k := by
  have := List.length_filter_le (stB es) (List.range k)
  simpa [nmL] using this
theorem nmL_bsum (es : List En) (k : Nat) (hk : k ≤ es.length) : bsum (nmL es k) ≤ ebulk (es.take k) := by
  induction k with
  | zero => simp [nmL, bsum]
  | succ k ih =>
    rw [nmL_succ, bsum_append, ebulk_take_succ es k (by omega)]
    have := ih (by omega)
    by_cases h : stB es k
    · simp [h, bsum, show k < es.length by omega]
      omega
    · simp [h, bsum]
      omega
/-- The answer of NamesOf. -/
def nmsV (vec : List Int) (es : List En) : List (List UInt8) := if treeB vec es then nmL es es.length else []
theorem nmsV_len (vec : List Int) (es : List En) (h : es.length ≤ 1048576) : (nmsV vec es).length ≤ 1048576 := by
  unfold nmsV
  split
  · exact Nat.le_trans (nmL_le _ _) h
  · simp
theorem nmsV_bsum (vec : List Int) (es : List En) (h : ebulk es ≤ 1048576) : bsum (nmsV vec es) ≤ 1048576 := by
  unfold nmsV
  split
  · have := nmL_bsum es es.length (Nat.le_refl _)
    rw [List.take_length] at this
    omega
  · simp [bsum]

/-- New names are handed back. -/
def NewBss (ls : List (List UInt8)) (w : World) (e : Ending) (w' : World) : Prop :=
  ∃ A c, e = .returned (.slice A ls.length c) ∧ BssOwn w' w.heap.size w'.heap.size A ls ∧ Below w.heap.size w w'

theorem NameAt.neS {w : World} {g base : Nat} {l : List UInt8} {v : Value} {n : Nat} {vs : List Value} (h : NameAt w g l) (ho : w.ownsRow base 26 1 v n vs) : v.ownBlock ≠ some g := by
  intro he
  obtain ⟨cur, fz, h1, _⟩ := h
  obtain ⟨_, ⟨rfl, _⟩ | ⟨R, cap, cur', rfl, _, hb, _⟩⟩ := ho
  · simp [Value.ownBlock] at he
  · simp [Value.ownBlock] at he
    subst he
    rw [hb] at h1
    simp at h1

/-- What has been laid of the row. -/
structure BsRel (w : World) (base : Nat) (ls : List (List UInt8)) (vs : List Value) (G : List Nat) : Prop where
  gl : G.length = ls.length
  vl : vs.length = ls.length
  cs : ∀ i (hi : i < ls.length), ∃ c, vs[i]? = some (.slice (some ⟨G.getD i 0, 0, none⟩) ls[i].length c)
  nm : ∀ i (hi : i < ls.length), base ≤ G.getD i 0 ∧ NameAt w (G.getD i 0) ls[i]
  inc : ∀ i j, i < j → j < ls.length → G.getD i 0 < G.getD j 0

theorem BsRel.nil (w : World) (base : Nat) : BsRel w base [] [] [] :=
  ⟨rfl, rfl, fun i h => absurd h (by simp), fun i h => absurd h (by simp), fun i j _ h => absurd h (by simp)⟩

theorem BsRel.keep {w w' : World} {base : Nat} {ls : List (List UInt8)} {vs : List Value} {G : List Nat} (h : BsRel w base ls vs G) (hk : ∀ i, i < ls.length → w'.heap[G.getD i 0]? = w.heap[G.getD i 0]?) : BsRel w' base ls vs G :=
  ⟨h.gl, h.vl, h.cs, fun i hi => ⟨(h.nm i hi).1, (h.nm i hi).2.keep (hk i hi)⟩, h.inc⟩

theorem BsRel.add {w : World} {base : Nat} {ls : List (List UInt8)} {vs : List Value} {G : List Nat} (h : BsRel w base ls vs G) {g c : Nat} {l : List UInt8} (hg : base ≤ g) (hn : NameAt w g l) (hlt : ∀ i, i < ls.length → G.getD i 0 < g) :
    BsRel w base (ls ++ [l]) (vs ++ [.slice (some ⟨g, 0, none⟩) l.length c]) (G ++ [g]) := by
  have hv := h.vl
  have hG : ∀ i, i < ls.length → (G ++ [g]).getD i 0 = G.getD i 0 := fun i hi => by simp [List.getD, List.getElem?_append_left (show i < G.length by rw [h.gl]; exact hi)]
  have hGe : (G ++ [g]).getD ls.length 0 = g := by simp [List.getD, ← h.gl]
  refine ⟨by simp [h.gl], by simp [h.vl], fun i hi => ?_, fun i hi => ?_, fun i j hij hj => ?_⟩
  · by_cases hik : i < ls.length
    · obtain ⟨c', h0⟩ := h.cs i hik
      rw [hG i hik, List.getElem_append_left hik]
      exact ⟨c', by rw [List.getElem?_append_left (by omega)]; exact h0⟩
    · obtain rfl : i = ls.length := by simp at hi; omega
      rw [hGe]
      refine ⟨c, ?_⟩
      rw [List.getElem?_append_right (by omega), hv]
      simp
  · by_cases hik : i < ls.length
    · rw [hG i hik, List.getElem_append_left hik]
      exact h.nm i hik
    · obtain rfl : i = ls.length := by simp at hi; omega
      rw [hGe]
      have he : (ls ++ [l])[ls.length]'hi = l := by simp
      rw [he]
      exact ⟨hg, hn⟩
  · simp at hj
    rw [hG i (by omega)]
    by_cases hjk : j < ls.length
    · rw [hG j hjk]
      exact h.inc i j hij hjk
    · obtain rfl : j = ls.length := by omega
      rw [hGe]
      exact hlt i hij

theorem BsRel.own {w : World} {base : Nat} {ls : List (List UInt8)} {vs : List Value} {G : List Nat} {A : Option Addr} {c : Nat} (h : BsRel w base ls vs G) (ho : w.ownsRow base 26 1 (.slice A ls.length c) ls.length vs) : BssOwn w base w.heap.size A ls := fun hl => by
  have ho' := ho
  obtain ⟨_, hh | ⟨R, cap, cur, hv, hR, hb, _, _, _, htk⟩⟩ := ho
  · omega
  injection hv with h1 _ _
  subst h1
  have hch := h.cs
  obtain ⟨C, hC⟩ : ∃ C : Nat → Nat, ∀ i (hi : i < ls.length), vs[i]? = some (.slice (some ⟨G.getD i 0, 0, none⟩) ls[i].length (C i)) :=
    ⟨fun i => if h : i < ls.length then Classical.choose (hch i h) else 0, fun i hi => by simp only [hi, dif_pos]; exact Classical.choose_spec (hch i hi)⟩
  refine ⟨R, fun i => G.getD i 0, C, rfl, ⟨hR, (Array.getElem?_eq_some_iff.1 hb).1, fun i hi => ⟨(h.nm i hi).1, (h.nm i hi).2.lt, fun e => (h.nm i hi).2.neS ho' (show some R = some (G.getD i 0) from congrArg some (show G.getD i 0 = R from e).symm)⟩, h.inc⟩, fun i hi => ?_⟩
  have c0 := hC i hi
  refine ⟨?_, (h.nm i hi).2.fr⟩
  rw [← htk, List.getElem?_take, if_pos (by omega)] at c0
  rw [World.cell?, hb]
  simpa using c0

set_option maxRecDepth 100000 in
set_option maxHeartbeats 4000000 in
theorem implNamesOf_any (AV : Option Addr) (vec : List Int) (cv : Nat) (A : Option Addr) (es : List En) (c : Nat) (w : World) (hV : IntsIn w 0 w.heap.size AV vec) (hA : EnsIn w 0 w.heap.size A es) (_hv : vec.length ≤ 1048576) (hn : es.length ≤ 1048576) (hbk : ebulk es ≤ 1048576) :
    Calls Try.prog 24 #[.agg #[.slice AV vec.length cv, .slice A es.length c]] w (NewBss (nmsV vec es) w) := by
  have HV := Lib.hid hV
  have HA := Lib.hid hA
  have HLen := Lib.hid (@treeB_len' vec es)
  obtain ⟨N, hN⟩ : ∃ N, N = nmsV vec es := ⟨_, rfl⟩
  have HN := Lib.hid (show N = if treeB vec es then nmL es es.length else [] from hN)
  rw [← hN]
  clear hN
  clear hV hA
  go_enter Try.func24, Try.ntmps24
  go_wp2_with fail
  obtain ⟨W, hW⟩ : ∃ W, W = w.alloc (.cells #[.slice AV vec.length cv, .slice A es.length c] 30) := ⟨_, rfl⟩
  have HBel := Lib.hid (show Below w.heap.size w W by rw [hW]; exact (Below.refl _ _).alloc (Nat.le_refl _) _)
  have hzW : w.heap.size < W.heap.size := by rw [hW]; simp
  rw [← hW]
  clear hW
  refine (readTree_any AV vec cv A es c W ((HV.out.keep fun p _ hp => HBel.out.cell hp).mono (by omega)) ((HA.out.below HBel.out).mono (by omega)) hn hbk).mono ?_
  rintro e w1 ⟨x0, x1, x2, x3, A', n, c', rfl, htr, hb1⟩
  have HB1 := Lib.hid (HBel.out.trans (hb1.mono (by omega)))
  have hz1 := hb1.size
  clear hb1
  obtain ⟨tb, htb⟩ : ∃ tb, tb = treeB vec es := ⟨_, rfl⟩
  rw [← htb] at htr HLen HN ⊢
  clear htb
  cases tb with
  | false =>
    have HN0 := Lib.hid (show N = [] from HN.out)
    clear htr
    go_wp2_with fail
    go_ret
    exact ⟨none, 0, by rw [HN0.out]; rfl, by rw [HN0.out]; exact BssOwn.nil, HB1.out.alloc (by omega) _⟩
  | true =>
  obtain ⟨-, rfl, hev⟩ := htr rfl
  have hl12 := HLen.out rfl
  have HE := Lib.hid hev
  clear htr hev HLen
  go_wp2_with fail
  obtain ⟨W2, hW2⟩ : ∃ W2, W2 = w1.alloc (.cells #[.int .i64 x0, .int .i64 x1, .int .i64 x2, .int .i64 x3, .slice A' es.length c'] 84) := ⟨_, rfl⟩
  have HX := Lib.hid (show Bx W2 w1.heap.size [.int .i64 x0, .int .i64 x1, .int .i64 x2, .int .i64 x3, .slice A' es.length c'] by rw [hW2]; exact Bx.new' _ _ _ _ rfl)
  have hb2 : Below w1.heap.size w1 W2 := by rw [hW2]; exact (Below.refl _ _).alloc (Nat.le_refl _) _
  have hz2 : w1.heap.size < W2.heap.size := by rw [hW2]; simp
  have HE2 := Lib.hid ((HE.out.below hb2).mono (Nat.le_of_lt hz2))
  have HB2 := Lib.hid (HB1.out.trans (hb2.mono (by omega)))
  rw [← hW2]
  clear hW2 hb2 HE
  go_loopw [5, 18] (fun x i wr => ∃ (k : Nat) (B : Option Addr) (cx : Nat) (vs : List Value) (G : List Nat), k ≤ es.length ∧ i = .int .i64 k ∧ x = .slice B (nmL es k).length cx ∧ wr.ownsRow W2.heap.size 26 1 (.slice B (nmL es k).length cx) (nmL es k).length vs ∧ BsRel wr W2.heap.size (nmL es k) vs G ∧ Below W2.heap.size W2 wr ∧ W2.heap.size ≤ wr.heap.size) (fun _ i _ => es.length - (intOf i).toNat)
  case atStart => exact ⟨0, none, 0, [], [], Nat.zero_le _, rfl, rfl, World.ownsRow_nil _ _ _ _, BsRel.nil _ _, Below.refl _ _, Nat.le_refl _⟩
  case round =>
    obtain ⟨k, B, cx, vs, G, hk, rfl, rfl, hown, hrl, hbel, hzr⟩ := hrel
    have HRl := Lib.hid hrl
    have HOwn := Lib.hid hown
    have HBr := Lib.hid hbel
    have HEr := Lib.hid ((HE2.out.below hbel).mono hzr)
    clear hown hrl hbel
    by_cases hlt : k < es.length
    · obtain ⟨bA, oA, hAe, hLA, hbA, hcA⟩ := HE2.out (by omega)
      obtain ⟨c0, c1, c2, c3⟩ := (hcA k hlt).keep (w' := wr) fun o => HBr.out.cell hbA
      obtain ⟨e, he⟩ : ∃ e, e = es[k] := ⟨_, rfl⟩
      rw [← he] at c0 c1 c2 c3
      have HS := Lib.hid (show nmL es (k + 1) = nmL es k ++ (if stB es k then [e.name] else []) by
        rw [nmL_succ, he]
        simp [hlt])
      have hkl := nmL_le es k
      obtain ⟨F, hF⟩ : ∃ F, F = nmL es k := ⟨_, rfl⟩
      rw [← hF] at HS hkl HOwn HRl ⊢
      subst hAe
      clear hcA he hF
      obtain ⟨n1, v1, d1, m1⟩ := e
      simp only at c0 c1 c2 c3 HS
      have q0 := (HBr.out.cell (p := ⟨w1.heap.size, 0, none⟩) hz2).trans (HX.out 0 (by simp))
      have q1 := (HBr.out.cell (p := ⟨w1.heap.size, 1, none⟩) hz2).trans (HX.out 1 (by simp))
      have q2 := (HBr.out.cell (p := ⟨w1.heap.size, 2, none⟩) hz2).trans (HX.out 2 (by simp))
      have q3 := (HBr.out.cell (p := ⟨w1.heap.size, 3, none⟩) hz2).trans (HX.out 3 (by simp))
      have q4 := (HBr.out.cell (p := ⟨w1.heap.size, 4, none⟩) hz2).trans (HX.out 4 (by simp))
      simp only [List.getElem_cons_succ, List.getElem_cons_zero] at q0 q1 q2 q3 q4
      have lq : w1.heap.size < wr.heap.size := by omega
      have hlt' : (k : Int) < (es.length : Int) := by omega
      go_wp2_with fail
      obtain ⟨W7, hW7⟩ : ∃ W7, W7 = wr.alloc (.cells #[.string ⟨n1.toArray⟩, .int .i64 v1, .int .i64 d1, .int .i64 m1] 97) := ⟨_, rfl⟩
      have HZ7 := Lib.hid (show Bx W7 wr.heap.size [.string ⟨n1.toArray⟩, .int .i64 v1, .int .i64 d1, .int .i64 m1] by rw [hW7]; exact Bx.new' _ _ _ _ rfl)
      have HB7 := Lib.hid (show Below wr.heap.size wr W7 by rw [hW7]; exact (Below.refl _ _).alloc (Nat.le_refl _) _)
      have hz7 : wr.heap.size < W7.heap.size := by rw [hW7]; simp
      rw [← hW7]
      clear hW7 c0 c1 c2 c3 q0 q1 q2 q3 q4
      refine (startsName_any x0 x1 x2 x3 (some ⟨bA, oA, none⟩) es c' k W7 (((HEr.out.below HB7.out).low (by omega)).mono (by omega)) hlt hl12).mono ?_
      rintro r w8 ⟨rfl, hb8⟩
      have HZ8 := Lib.hid (HZ7.out.below hb8 hz7)
      have HB8 := Lib.hid (HB7.out.trans (hb8.mono (by omega)))
      have hz8 := hb8.size
      clear hb8
      cases hq : stB es k with
      | false =>
        have HS2 := Lib.hid (show nmL es (k + 1) = F by rw [HS.out, hq]; simp)
        clear hq
        go_wp2_with fail
        go_roundw
        case rel =>
          refine ⟨k + 1, B, cx, vs, G, by omega, by go_num, by rw [HS2.out], ?_, ?_, HBr.out.trans (HB8.out.mono hzr), by omega⟩
          · rw [HS2.out]
            exact ownsRow_below HOwn.out HB8.out fun g hg => (HOwn.out.lt g hg).2
          · rw [HS2.out]
            exact HRl.out.keep fun i hi => HB8.out.block _ (HRl.out.nm i hi).2.lt
        case measure => simp [intOf]; omega
      | true =>
        have HS2 := Lib.hid (show nmL es (k + 1) = F ++ [n1] by rw [HS.out, hq]; simp)
        have z0 := HZ8.out 0 (by simp)
        simp only [List.getElem_cons_zero] at z0
        have HOwn8 := Lib.hid (ownsRow_below HOwn.out HB8.out fun g hg => (HOwn.out.lt g hg).2)
        obtain ⟨i0, hi, hz0, hz1', hz2'⟩ := info_parts Try.infoBs
        have hcv := Lib.run_convert_string_bytes (P := Try.prog) w8 9 26 5 ⟨n1.toArray⟩ Try.underlying9 Try.underlying26 Try.underlying5
        obtain ⟨W9, hW9⟩ : ∃ W9, W9 = Lib.bytesWorld w8 5 ⟨n1.toArray⟩ := ⟨_, rfl⟩
        obtain ⟨gc, hgc⟩ : ∃ gc, gc = grownCap w8 (ByteArray.size ⟨n1.toArray⟩) 0 5 := ⟨_, rfl⟩
        have hns : ByteArray.size ⟨n1.toArray⟩ = n1.length := by simp [ByteArray.size]
        have hnm := nameAt_bytes w8 n1
        rw [← hW9] at hnm
        rw [← hW9, ← hgc, hns] at hcv
        have HNm := Lib.hid hnm
        have hb9 : Below w8.heap.size w8 W9 := by rw [hW9]; exact below_bytes _ _ _
        have hz9 : w8.heap.size < W9.heap.size := by rw [hW9, Lib.bytesWorld_size]; omega
        have HB9 := Lib.hid (HB8.out.trans (hb9.mono (by omega)))
        have HOwn9 := Lib.hid (ownsRow_below HOwn8.out hb9 fun g hg => (HOwn8.out.lt g hg).2)
        have HRl9 := Lib.hid (show BsRel W9 W2.heap.size F vs G from HRl.out.keep fun i hi => HB9.out.block _ (HRl.out.nm i hi).2.lt)
        clear hq hW9 hb9 hgc hns hnm
        go_wp2_with (at_builtin; refine wpList_append_own _ rfl _ _ 40 rfl W2.heap.size 26 i0 (.slice none 0 0) 1 24 Try.underlying40 hi hz0 hz1' hz2' rfl (by decide) _ _ _ rfl (HOwn9.out.alloc _) ⟨W9.heap.size, 0, none⟩ 1 1 [.slice (some ⟨w8.heap.size, 0, none⟩) n1.length gc] rfl rfl ?c1 ?c2 ?c3 ?c4 ?c5 ?_)
        case c1 => exact cell_one_new _ _ _
        case c2 => first | rfl | (intro u hu; simp at hu; subst hu; rfl)
        case c3 => unfold maxLen; omega
        case c4 => omega
        case c5 => first | omega | (simp; omega)
        intro v' w5 hrow5 hgr5 _
        obtain ⟨A5, c5, rfl⟩ := row_shapeN hrow5
        have HRow5 := Lib.hid hrow5
        have HB5 := Lib.hid (((HBr.out.trans (HB9.out.mono hzr)).alloc (by omega) (.cells #[.slice (some ⟨w8.heap.size, 0, none⟩) n1.length gc] 26)).grown hgr5 (by simp; omega) (fun g hg => (HOwn9.out.lt g hg).1))
        have hz5 : W9.heap.size + 1 ≤ w5.heap.size := by simpa using hgr5.size
        have HRl5 := Lib.hid (show BsRel w5 W2.heap.size F vs G from HRl9.out.keep fun i hi => by
          have hlt9 := (HRl9.out.nm i hi).2.lt
          have hne := (HRl9.out.nm i hi).2.neS HOwn9.out
          rw [hgr5.block _ (by rw [World.size_alloc]; omega) (fun e => hne e.symm), heap_alloc_old _ _ hlt9])
        have HNm5 := Lib.hid (show NameAt w5 w8.heap.size n1 from HNm.out.keep (by
          have hne := HNm.out.neS HOwn9.out
          rw [hgr5.block _ (by rw [World.size_alloc]; omega) (fun e => hne e.symm), heap_alloc_old _ _ HNm.out.lt]))
        clear hrow5 hgr5
        go_wp2_with fail
        go_roundw
        case rel =>
          refine ⟨k + 1, A5, c5, vs ++ [.slice (some ⟨w8.heap.size, 0, none⟩) n1.length gc], G ++ [w8.heap.size], by omega, by go_num, by rw [HS2.out]; simp, ?_, ?_, HB5.out, by omega⟩
          · rw [HS2.out, List.length_append]
            exact HRow5.out
          · rw [HS2.out]
            exact HRl5.out.add (by omega) HNm5.out fun i hi => by have := (HRl.out.nm i hi).2.lt; omega
        case measure => simp [intOf]; omega
    · have hke : k = es.length := by omega
      have HL := Lib.hid (show N = nmL es k by rw [HN.out, hke]; rfl)
      have HFin := Lib.hid (HRl.out.own HOwn.out)
      clear hke
      have HO := Lib.hid (HB2.out.trans (HBr.out.mono (by omega)))
      go_wp2_with fail
      go_ret
      exact ⟨B, cx, by rw [HL.out]; rfl, by rw [HL.out]; exact HFin.out.mono (by omega) (Nat.le_refl _), HO.out⟩


end Go.Proofs.Ytblmhhijgdkkoaa
