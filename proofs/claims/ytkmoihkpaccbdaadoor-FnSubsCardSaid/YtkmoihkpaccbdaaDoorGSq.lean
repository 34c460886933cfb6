/-
  Several texts in one: Sq, Sm, So, Oq, Og, Or, Os.
-/
import Derived.Test.YtkmoihkpaccbdaaDoorSet
import Derived.Test.YtkmoihkpaccbdaaDoorGLed
import Derived.Test.YtkmoihkpaccbdaaDoorPick
import Derived.Maps.AppendAt
import Derived.RangeFuncNested
import Derived.RangeFuncBound
import Derived.RangeFuncCalls
import Derived.RangeFuncLeaves
import Derived.Shelf.Abstract
import Derived.Shelf.RegionOpen
import Derived.OwnWalkIn
import Derived.TacticsInMore
import Derived.LoopNIn
import Derived.LoopIn
import Derived.Sort.OwnSortedInts
import Derived.Test.YtkmoihkpaccbdaaDoorSrt
import Derived.Test.YtkmoihkpaccbdaaDoorDedL
import Derived.Maps.GroupsBeside
import Derived.Great.Frames
namespace Go.Proofs.YtkmoihkpaccbdaaDoor
open Go.RowKit Go.Maps

/-- Only blocks of which T holds have turned, and what is new. -/
structure Off (T : Nat → Prop) (w w' : World) : Prop where
  os : w'.os = w.os
  tape : w'.tape = w.tape
  output : w'.output = w.output
  size : w.heap.size ≤ w'.heap.size
  block : ∀ i, i < w.heap.size → ¬ T i → w'.heap[i]? = w.heap[i]?

section
variable {T T' : Nat → Prop} {a b c : World}
theorem Off.refl (T : Nat → Prop) (w : World) : Off T w w := ⟨rfl, rfl, rfl, Nat.le_refl _, fun _ _ _ => rfl⟩
theorem Off.trans (h : Off T a b) (k : Off T' b c) (ht : ∀ i, i < a.heap.size → T' i → T i) : Off T a c :=
  ⟨k.os.trans h.os, k.tape.trans h.tape, k.output.trans h.output, Nat.le_trans h.size k.size, fun i hi hT => (k.block i (Nat.lt_of_lt_of_le hi h.size) fun h' => hT (ht i hi h')).trans (h.block i hi hT)⟩
theorem Off.wider (h : Off T a b) (ht : ∀ i, i < a.heap.size → T i → T' i) : Off T' a b := ⟨h.os, h.tape, h.output, h.size, fun i hi hT => h.block i hi fun h' => hT (ht i hi h')⟩
theorem Off.grown (h : Off T a b) {row : Option Nat} (hg : b.grownBy c row) (hr : ∀ j, row = some j → j < a.heap.size → T j) : Off T a c :=
  ⟨hg.os.trans h.os, hg.tape.trans h.tape, hg.output.trans h.output, Nat.le_trans h.size hg.size, fun i hi hT => (hg.block i (Nat.lt_of_lt_of_le hi h.size) fun e => hT (hr i e.symm hi)).trans (h.block i hi hT)⟩
theorem Off.below (h : Off T a b) (hb : Below b.heap.size b c) : Off T a c :=
  ⟨hb.os.trans h.os, hb.tape.trans h.tape, hb.output.trans h.output, Nat.le_trans h.size hb.size, fun i hi hT => (hb.block i (Nat.lt_of_lt_of_le hi h.size)).trans (h.block i hi hT)⟩
theorem Off.alloc (h : Off T a b) (o : Obj) : Off T a (b.alloc o) := h.below ((Below.refl _ _).alloc (Nat.le_refl _) _)
theorem Off.setCell (h : Off T a b) {p : Addr} (hp : p.block < a.heap.size → T p.block) (v : Value) : Off T a (b.setCell p v) :=
  ⟨h.os, h.tape, h.output, by simpa using h.size, fun i hi hT => by
    rw [Below.heap_setCell _ _ _ _ (by rintro rfl; exact hT (hp hi))]
    exact h.block i hi hT⟩
theorem Off.of_below (hb : Below a.heap.size a b) : Off T a b := (Off.refl T a).below hb
theorem Off.low (h : Off T a b) {B : Nat} (hB : B ≤ a.heap.size) (hT : ∀ i, T i → B ≤ i) : Below B a b :=
  ⟨h.os, h.tape, h.output, h.size, fun i hi => h.block i (by omega) fun h' => by have := hT i h'; omega⟩
theorem Off.cell (h : Off T a b) {p : Addr} (hp : p.block < a.heap.size) (hT : ¬ T p.block) : b.cell? p = a.cell? p := World.cell?_of_block (h.block _ hp hT)
theorem Off.frozen (h : Off T a b) {p : Addr} (hp : p.block < a.heap.size) (hT : ¬ T p.block) : b.frozen? p = a.frozen? p := World.frozen?_of_block (h.block _ hp hT)
end

theorem below_grown {w w' : World} (hb : Below w.heap.size w w') : w.grownBy w' none := ⟨hb.os, hb.tape, hb.output, hb.size, fun k hk _ => hb.block k hk⟩

/-- A number of 64 bits. -/
def WfI (x : Int) : Prop := (Lit.int .i64 x).wf = true
theorem wfI_of {x : Int} (h0 : 0 ≤ x) (h1 : x < 9223372036854775808) : WfI x := by
  show (decide ((-9223372036854775808 : Int) ≤ x) && decide (x ≤ (9223372036854775807 : Int))) = true
  simp
  omega
def klI (x : Int) : Lit := .int .i64 x
theorem klI_inj (x y : Int) (_ : WfI x) (_ : WfI y) (h : klI x = klI y) : x = y := by
  unfold klI at h
  injection h
theorem klI_key (x : Int) : WideAt.IsKeyLit (klI x) := trivial
theorem Tryd.keyedI : Keyed Tryd.prog 3 := int_keyed Tryd.underlying3
theorem keyOf_I {x : Int} (h : WfI x) : keyOf Tryd.prog 3 (.int .i64 x) = some (klI x) := keyOf_int_mk Tryd.underlying3 h
theorem zeroBoolI (w : World) : (zeroValue 4).run Tryd.prog w = .ok (.bool false) w := by kernel_rfl

/-- A set of numbers: a slice of its members, in a row from block R0 on, and a map, behind a pointer. -/
structure NumSet (w : World) (M R0 : Nat) (us : List Int) (v : Value) : Prop where
  obj : w.heap[M + 1]? = some (.cells #[v, .map (some M)] 118 (0, 0))
  map : w.ownsMap (H := Unit) Tryd.prog 3 (plainElem Tryd.prog 4) M us.length (smap klI us)
  row : w.ownsRow R0 3 1 v us.length (us.map vint)
  base : M + 2 ≤ R0

section
variable {w w' : World} {M R0 : Nat} {us : List Int} {v : Value}
theorem NumSet.lt (h : NumSet w M R0 us v) : M + 1 < w.heap.size := (Array.getElem?_eq_some_iff.1 h.obj).1
theorem NumSet.off (h : NumSet w M R0 us v) {T : Nat → Prop} (hb : Off T w w') (h0 : ¬ T M) (h1 : ¬ T (M + 1)) (h2 : ∀ g, v.ownBlock = some g → ¬ T g) : NumSet w' M R0 us v where
  obj := (hb.block _ h.lt h1).trans h.obj
  map := by
    obtain ⟨es, clock, hh, F, hs, hD⟩ := h.map
    exact ⟨es, clock, (hb.block M (Array.getElem?_eq_some_iff.1 hh).1 h0).trans hh, F, hs, hD⟩
  row := by
    obtain ⟨h3, h4 | ⟨g, cap, cur, hv, hg, hh, h5, h6, h7, h8⟩⟩ := h.row
    · exact ⟨h3, .inl h4⟩
    · subst hv
      exact ⟨h3, .inr ⟨g, cap, cur, rfl, hg, (hb.block g (Array.getElem?_eq_some_iff.1 hh).1 (h2 g rfl)).trans hh, h5, h6, h7, h8⟩⟩
  base := h.base
theorem NumSet.below (h : NumSet w M R0 us v) (hb : Below w.heap.size w w') : NumSet w' M R0 us v :=
  h.off (T := fun _ => False) (.of_below hb) (fun h => h) (fun h => h) (fun _ _ h => h)
theorem NumSet.cell0 (h : NumSet w M R0 us v) : w.cell? ⟨M + 1, 0, none⟩ = some v := by simp [World.cell?, h.obj]
theorem NumSet.cell1 (h : NumSet w M R0 us v) : w.cell? ⟨M + 1, 1, none⟩ = some (.map (some M)) := by simp [World.cell?, h.obj]
theorem NumSet.free (h : NumSet w M R0 us v) (o : Nat) : w.frozen? ⟨M + 1, o, none⟩ = false := by simp [World.frozen?, h.obj]
theorem NumSet.ints (h : NumSet w M R0 us v) : ∃ A c, v = .slice A us.length c ∧ us.length ≤ c ∧ c ≤ maxLen ∧ IntsFr w R0 w.heap.size A us := by
  obtain ⟨A, c, rfl⟩ := row_shape h.row
  refine ⟨A, c, rfl, ?_, ?_, ints_of_row h.row⟩
  all_goals
    obtain ⟨_, h4 | ⟨g, cap, cur, hv, _, _, h5, h6, _⟩⟩ := h.row
    · obtain ⟨h5, h6⟩ := h4
      injection h5
      first | omega | (unfold maxLen; omega)
    · injection hv
      subst_vars
      assumption
end

set_option maxRecDepth 100000 in
set_option maxHeartbeats 1000000 in
theorem newSetI_any (w : World) :
    Calls Tryd.prog 71 #[] w fun e w' => e = .returned (.pointer (some ⟨w.heap.size + 1, 0, none⟩)) ∧ (∀ R0, w.heap.size + 2 ≤ R0 → NumSet w' w.heap.size R0 [] (.slice none 0 0)) ∧ w'.heap.size = w.heap.size + 2 ∧ Below w.heap.size w w' := by
  have hmm := @run_makeMap Tryd.prog
  go_enter Tryd.func71, Tryd.ntmps71
  go_wp2_with fail
  go_ret
  refine ⟨rfl, fun R0 hR => ⟨?_, ?_, ?_, hR⟩, by simp, ((Below.refl _ _).alloc (Nat.le_refl _) _).alloc (by simp) _⟩
  · have := heap_alloc_new (w.alloc (.map #[] 0)) (.cells #[.slice none 0 0, .map (some w.heap.size)] 118 (0, 0))
    simpa using this
  · exact (World.ownsMap_made w _ _ _).alloc _
  · simpa using World.ownsRow_nil _ _ _ _

set_option maxRecDepth 100000 in
set_option maxHeartbeats 1000000 in
theorem hasI_any (M R0 : Nat) (us : List Int) (v : Value) (A : Option Addr) (es : List Int) (c : Nat) (w : World) (hS : NumSet w M R0 us v) (hus : ∀ x ∈ us, WfI x) (hes : ∀ x ∈ es, WfI x) (hA : IntsIn w 0 w.heap.size A es) (hn : es.length ≤ 1048576) :
    Calls Tryd.prog 46 #[.pointer (some ⟨M + 1, 0, none⟩), .slice A es.length c] w fun e w' => e = .returned (.bool (es.all (inB us))) ∧ w' = w := by
  have HS := Lib.hid hS
  have HUs := Lib.hid hus
  have HEs := Lib.hid hes
  have HA := Lib.hid hA
  clear hS hus hes hA
  go_enter Tryd.func46, Tryd.ntmps46
  go_wp2_with fail
  go_loopw [9] (fun i wr => ∃ k : Nat, k ≤ es.length ∧ i = .int .i64 k ∧ (es.take k).all (inB us) = true ∧ wr = w) (fun i _ => es.length - (intOf i).toNat)
  case atStart => exact ⟨0, Nat.zero_le _, rfl, rfl, rfl⟩
  case round =>
    obtain ⟨k, hk, rfl, hall, rfl⟩ := hrel
    have HAll := Lib.hid hall
    clear hall
    by_cases hlt : k < es.length
    · obtain ⟨g, o, rfl, _, hg, hc⟩ := HA.out (by omega)
      have c0 := hc k hlt
      have hlook := look_smap (P := Tryd.prog) klI_inj klI_key HS.out.map Tryd.keyedI Tryd.underlying116 Tryd.underlying4 (zeroBoolI wr) (keyOf_I (HEs.out _ (List.getElem_mem hlt))) HUs.out (HEs.out _ (List.getElem_mem hlt))
      have c1 := HS.out.cell1
      obtain ⟨x, hx⟩ : ∃ x, x = es[k] := ⟨_, rfl⟩
      obtain ⟨b, hb⟩ : ∃ b, b = inB us x := ⟨_, rfl⟩
      have HX := Lib.hid (show (es.take (k + 1)) = es.take k ++ [x] by rw [List.take_succ_eq_append_getElem hlt, hx])
      have HT := Lib.hid (show es.all (inB us) = false ∨ b = true by
        cases h : b with
        | true => exact .inr rfl
        | false =>
          refine .inl ?_
          rw [List.all_eq_false]
          exact ⟨es[k], List.getElem_mem hlt, by rw [← hx, ← hb, h]; simp⟩)
      rw [← hx] at c0 hlook
      rw [← hb] at hlook
      have HB := Lib.hid hb
      clear hx hb hc
      cases h : b with
      | false =>
        have HT2 := Lib.hid (show es.all (inB us) = false by rcases HT.out with h' | h'; exact h'; rw [h] at h'; cases h')
        rw [h] at hlook
        clear HT HB h
        go_wp2_with fail
        go_ret
        exact ⟨ret_bool HT2.out.symm, rfl⟩
      | true =>
        rw [h] at hlook
        have HB2 := Lib.hid (HB.out.symm.trans h)
        clear HT HB h
        go_wp2_with fail
        go_roundw
        case rel => exact ⟨k + 1, by omega, by go_num, by rw [HX.out, List.all_append, HAll.out]; simp [HB2.out], by first | rfl | trivial⟩
        case measure => simp [intOf]; omega
    · have hke : k = es.length := by omega
      have HR := Lib.hid (show es.all (inB us) = true by have := HAll.out; rwa [hke, List.take_length] at this)
      go_wp2_with fail
      go_ret
      exact ⟨ret_bool HR.out.symm, rfl⟩

/-- The set behind an addition. -/
def addI (us : List Int) (x : Int) : List Int := if inB us x = true then us else us ++ [x]
def addAll (us es : List Int) : List Int := es.foldl addI us
theorem addAll_nil (us : List Int) : addAll us [] = us := rfl
theorem addAll_snoc (us es : List Int) (x : Int) : addAll us (es ++ [x]) = addI (addAll us es) x := by simp [addAll, List.foldl_append]
theorem addI_length (us : List Int) (x : Int) : us.length ≤ (addI us x).length ∧ (addI us x).length ≤ us.length + 1 := by
  unfold addI
  split <;> simp
theorem addAll_length (us es : List Int) : (addAll us es).length ≤ us.length + es.length := by
  induction es using snoc_rec with
  | h0 => simp [addAll]
  | h1 xs x ih =>
    rw [addAll_snoc]
    have := (addI_length (addAll us xs) x).2
    simp
    omega
theorem mem_addI {us : List Int} {x y : Int} : y ∈ addI us x ↔ y ∈ us ∨ y = x := by
  unfold addI
  split
  · rename_i h
    simp [inB] at h
    constructor
    · exact .inl
    · rintro (h' | rfl)
      · exact h'
      · exact h
  · simp
theorem mem_addAll {us es : List Int} {y : Int} : y ∈ addAll us es ↔ y ∈ us ∨ y ∈ es := by
  induction es using snoc_rec with
  | h0 => simp [addAll]
  | h1 xs x ih =>
    rw [addAll_snoc, mem_addI, ih]
    simp [or_assoc]
theorem nodup_addI {us : List Int} (h : us.Nodup) (x : Int) : (addI us x).Nodup := by
  unfold addI
  split
  · exact h
  · rename_i hx
    simp [inB] at hx
    rw [List.nodup_append]
    exact ⟨h, by simp, fun a ha b hb => by simp at hb; subst hb; rintro rfl; exact hx ha⟩
theorem nodup_addAll {us : List Int} (h : us.Nodup) (es : List Int) : (addAll us es).Nodup := by
  induction es using snoc_rec with
  | h0 => exact h
  | h1 xs x ih => rw [addAll_snoc]; exact nodup_addI ih x
theorem prefix_addI (us : List Int) (x : Int) : us <+: addI us x := by
  unfold addI
  split
  · exact List.prefix_refl _
  · exact List.prefix_append _ _
theorem prefix_addAll (us es : List Int) : us <+: addAll us es := by
  induction es using snoc_rec with
  | h0 => exact List.prefix_refl _
  | h1 xs x ih => rw [addAll_snoc]; exact ih.trans (prefix_addI _ _)

/-- The set's own blocks. -/
def Own2 (M : Nat) (v : Value) (i : Nat) : Prop := i = M ∨ i = M + 1 ∨ v.ownBlock = some i

set_option maxRecDepth 100000 in
set_option maxHeartbeats 2000000 in
theorem addI_any (M R0 : Nat) (us : List Int) (v : Value) (A : Option Addr) (es : List Int) (c : Nat) (w : World) (hS : NumSet w M R0 us v) (hus : ∀ x ∈ us, WfI x) (hes : ∀ x ∈ es, WfI x) (hA : IntsIn w 0 w.heap.size A es) (hoff : ∀ b o, A = some ⟨b, o, none⟩ → ¬ Own2 M v b) (hR0 : R0 ≤ w.heap.size) (hn : us.length + es.length ≤ 1048576) :
    Calls Tryd.prog 63 #[.pointer (some ⟨M + 1, 0, none⟩), .slice A es.length c] w fun e w' => e = .returned (.tuple #[]) ∧ ∃ v', NumSet w' M R0 (addAll us es) v' ∧ (v'.ownBlock = v.ownBlock ∨ ∃ g, v'.ownBlock = some g ∧ w.heap.size ≤ g) ∧ Off (Own2 M v) w w' := by
  have HS := Lib.hid hS
  have HUs := Lib.hid hus
  have HEs := Lib.hid hes
  have HA := Lib.hid hA
  have HOff := Lib.hid hoff
  have hMlt := hS.lt
  clear hS hus hes hA hoff
  go_enter Tryd.func63, Tryd.ntmps63
  go_wp2_with fail
  go_loopw [8] (fun i wr => ∃ (k : Nat) (u : Value), k ≤ es.length ∧ i = .int .i64 k ∧ NumSet wr M R0 (addAll us (es.take k)) u ∧ (u.ownBlock = v.ownBlock ∨ ∃ g, u.ownBlock = some g ∧ w.heap.size ≤ g) ∧ Off (Own2 M v) w wr) (fun i _ => es.length - (intOf i).toNat)
  case atStart => exact ⟨0, v, Nat.zero_le _, rfl, HS.out, .inl rfl, .refl _ _⟩
  case round =>
    obtain ⟨k, u, hk, rfl, hset, hloc, hofw⟩ := hrel
    have HSet := Lib.hid hset
    have HLoc := Lib.hid hloc
    have HOfw := Lib.hid hofw
    have hsz := hofw.size
    have hlen : (addAll us (es.take k)).length ≤ us.length + k := by have := addAll_length us (es.take k); simp at this; omega
    clear hset hloc hofw
    by_cases hlt : k < es.length
    · obtain ⟨g, o, rfl, _, hg, hc⟩ := HA.out (by omega)
      have c0 := (HOfw.out.cell (p := ⟨g, o + k, none⟩) hg (HOff.out g o rfl)).trans (hc k hlt)
      have hwx := HEs.out _ (List.getElem_mem hlt)
      have HUs2 := Lib.hid (show ∀ x ∈ addAll us (es.take k), WfI x from fun x hx => by
        rcases mem_addAll.1 hx with h | h
        · exact HUs.out x h
        · exact HEs.out x (List.mem_of_mem_take h))
      have HX := Lib.hid (show addAll us (es.take (k + 1)) = addI (addAll us (es.take k)) es[k] by rw [List.take_succ_eq_append_getElem hlt, addAll_snoc])
      obtain ⟨x, hx⟩ : ∃ x, x = es[k] := ⟨_, rfl⟩
      rw [← hx] at c0 hwx HX
      have HWx := Lib.hid hwx
      clear hx hc hwx
      generalize addAll us (es.take k) = xs at *
      have hlook := look_smap (P := Tryd.prog) klI_inj klI_key HSet.out.map Tryd.keyedI Tryd.underlying116 Tryd.underlying4 (zeroBoolI wr) (keyOf_I HWx.out) HUs2.out HWx.out
      have c1 := HSet.out.cell1
      obtain ⟨b, hb⟩ : ∃ b, b = inB xs x := ⟨_, rfl⟩
      rw [← hb] at hlook
      have HB := Lib.hid hb
      clear hb
      cases h : b with
      | true =>
        rw [h] at hlook
        have HR := Lib.hid (show addI xs x = xs by unfold addI; rw [← HB.out, h, if_pos rfl])
        clear HB h
        go_wp2_with fail
        go_roundw
        case rel => exact ⟨k + 1, u, by omega, by go_num, by rw [HX.out, HR.out]; exact HSet.out, HLoc.out, HOfw.out⟩
        case measure => simp [intOf]; omega
      | false =>
        rw [h] at hlook
        have HR := Lib.hid (show addI xs x = xs ++ [x] by unfold addI; rw [← HB.out, h]; simp)
        clear HB h
        obtain ⟨w4, hupd, hmap4, hgr4⟩ := HSet.out.map.update Tryd.keyedI Tryd.underlying116 (by unfold maxLen; omega) (key := .int .i64 x) (val := .bool true) (keyOf_I HWx.out) (plainElem_bool Tryd.underlying4 true)
        have hMr := HSet.out.lt
        have hz4 := hgr4.size
        have HM4 := Lib.hid hmap4
        have HG4 := Lib.hid hgr4
        have d0 : w4.cell? ⟨M + 1, 0, none⟩ = some u := cellN_grown hgr4 HSet.out.cell0 (by simp)
        have HO4 := Lib.hid ((hgr4.block (M + 1) hMr (by simp)).trans HSet.out.obj)
        have HRow4 := Lib.hid (show w4.ownsRow R0 3 1 u xs.length (xs.map vint) from HSet.out.row.kept hgr4 (.inr fun e => by have := (HSet.out.row.lt _ e).1; have := HSet.out.base; omega))
        obtain ⟨i0, hi, hz0, hz1', hz2'⟩ := info_parts Tryd.infoInt
        clear hmap4 hgr4
        have d1 := cellN_alloc (.cells #[.int .i64 x] 3) d0
        go_wp2_with (at_builtin; refine wpList_append_own_at _ rfl _ _ 28 rfl R0 3 i0 (.int .i64 0) 1 8 Tryd.underlying28 hi hz0 hz1' hz2' rfl (by decide) _ _ _ rfl (HRow4.out.alloc _) ⟨w4.heap.size, 0, none⟩ 1 1 [.int .i64 x] rfl rfl ?c1 ?c2 ?c3 ?c4 ?c5 ?_)
        case c1 => exact cell_one_new _ _ _
        case c2 => intro u hu; simp at hu; subst hu; rfl
        case c3 => unfold maxLen; omega
        case c4 => omega
        case c5 => simp; omega
        intro v' w5 hrow5 hgr5 _ hloc5
        obtain ⟨A5, c5, rfl⟩ := row_shape hrow5
        have hne : u.ownBlock ≠ some (M + 1) := fun e => by have := (HRow4.out.lt _ e).1; have := HSet.out.base; omega
        have hneM : u.ownBlock ≠ some M := fun e => by have := (HRow4.out.lt _ e).1; have := HSet.out.base; omega
        have hO5 : w5.heap[M + 1]? = some (.cells #[u, .map (some M)] 118 (0, 0)) := (hgr5.block (M + 1) (by simp; omega) (fun e => hne e.symm)).trans ((heap_alloc_old w4 _ (by omega)).trans HO4.out)
        have q0 : w5.cell? ⟨M + 1, 0, none⟩ = some u := by simp [World.cell?, hO5]
        have q1 : w5.frozen? ⟨M + 1, 0, none⟩ = false := by simp [World.frozen?, hO5]
        have HRow5 := Lib.hid hrow5
        have HO5 := Lib.hid hO5
        have HM5 := Lib.hid ((HM4.out.alloc (.cells #[.int .i64 x] 3)).kept hgr5 (fun e => hneM e.symm))
        have HT5 := Lib.hid (show Off (Own2 M v) w w5 from ((HOfw.out.grown HG4.out (fun j e _ => by cases e; exact .inl rfl)).alloc _).grown hgr5 (fun j e hj => by
          rcases HLoc.out with h | ⟨g', h, hg'⟩
          · exact .inr (.inr (h ▸ e))
          · rw [h] at e; cases e; omega))
        have HL5 := Lib.hid (show (Value.slice A5 (xs.length + 1) c5).ownBlock = v.ownBlock ∨ ∃ g, (Value.slice A5 (xs.length + 1) c5).ownBlock = some g ∧ w.heap.size ≤ g from by
          rcases hloc5 with h | h
          · rw [h]; exact HLoc.out
          · exact .inr ⟨_, h, by omega⟩)
        clear hrow5 hgr5 hloc5 hO5 hupd d0 d1 c0 c1 hlook hne hneM
        go_wp2_with fail
        go_roundw
        case rel =>
          refine ⟨k + 1, .slice A5 (xs.length + 1) c5, by omega, by go_num, ?_, HL5.out, HT5.out.setCell (fun _ => .inr (.inl rfl)) _⟩
          rw [HX.out, HR.out]
          refine ⟨?_, ?_, ?_, HSet.out.base⟩
          · have := heap_setCell_same w5 (M + 1) 0 _ _ (Value.slice A5 (xs.length + 1) c5) HO5.out
            simpa using this
          · have := HM5.out.setCell (a := ⟨M + 1, 0, none⟩) (by show M ≠ M + 1; omega) (.slice A5 (xs.length + 1) c5)
            rw [smap_snoc]
            simpa [klI] using this
          · have := ownsRow_setCell_below HRow5.out (a := ⟨M + 1, 0, none⟩) (by show M + 1 < R0; have := HSet.out.base; omega) (.slice A5 (xs.length + 1) c5)
            simpa [vint] using this
        case measure => simp [intOf]; omega
    · have hke : k = es.length := by omega
      have HR := Lib.hid (show addAll us (es.take k) = addAll us es by rw [hke, List.take_length])
      go_wp2_with fail
      go_end0
      exact ⟨rfl, u, by rw [← HR.out]; exact HSet.out, HLoc.out, HOfw.out⟩

end Go.Proofs.YtkmoihkpaccbdaaDoor

namespace Go.Proofs.YtkmoihkpaccbdaaDoor
open Go.RowKit Go.Maps Go.Shelf
attribute [local go_sem] Oper.semAt_some

/-- An iterator over numbers: wherever J tells what has been gone through (k) and what there is (ms), readable by Src, a round is given ms[k]; it ends when all there is has been gone through. -/
def SeqMs (F : Fence) (n : Nat) (P : Program) (g : Nat) (lb : Array Value) (Src : List Int → World → Prop) (N : Nat) : Prop :=
  ∀ (l : Nat) (J : Nat → List Int → World → Prop) (W : World),
    (∀ k ms W1, J k ms W1 → Src ms W1 ∧ k ≤ ms.length ∧ ms.length ≤ N) →
    (∀ k ms W1, J k ms W1 → ∀ hk : k < ms.length, YieldAt F (n - 1) P l #[.int .i64 ms[k]] W1 fun e W' => e = .returned (.bool true) ∧ ∃ ms', J (k + 1) ms' W') →
    (∃ ms, J 0 ms W) →
    CallsIn F n P g (#[.func (.yield l) #[] #[]] ++ lb) W fun e W' => (∃ v, e = .returned v) ∧ ∃ ms, J ms.length ms W'

/-- How a round may be left. -/
def msPost (B : Nat) (I : Nat → List Int → World → Prop) (k : Nat) (W : World) : Exit → Act → World → Prop
  | .normal, _, W' => KeepsFrom B W W' ∧ ∃ ms', I k ms' W'
  | _, _, _ => False

variable {F : Fence} {n : Nat} {P : Program}

theorem wpIn_rangeFunc_ms {g : Operand} {ps : Array Tmp} {assign body : Code} {Q : Exit → Act → World → Prop} {a : Act} {w : World}
    (hro : F.round = none) (h1 : 1 ≤ n) {gf : Nat} {lb : Array Value} (hg : a.eval g = .func (.func gf) #[] lb) (hFg : F.fn gf) (eg : ∀ args w, (callFunc gf args).run P w = .ok (.enter gf args) w)
    {Src : List Int → World → Prop} {N : Nat} (hseq : SeqMs F (n - 1) P gf lb Src N) (hps : ps.size = 1)
    (I : Nat → List Int → World → Prop) (hI : OwnFrom w.heap.size (fun (s : Nat × List Int) W => I s.1 s.2 W)) (hIs : ∀ k ms W, I k ms W → Src ms W ∧ k ≤ ms.length ∧ ms.length ≤ N)
    (ms0 : List Int) (h0 : I 0 ms0 w) (a₁ : Int → Act)
    (hassign : ∀ (l : Nat) (x : Int) (W : World) (K : Act → World → Prop), K (a₁ x) W →
      assign.wpIn (F.inRound l) (n - 1 - 1) P (Exit.then K (fun _ _ _ => False)) { tmps := (ps.zip #[Value.int .i64 x]).foldl (fun t (p, v) => t.setIfInBounds p v) a.tmps, defers := [] } W)
    (hbody : ∀ (l k : Nat) (ms : List Int) (W : World) (hk : k < ms.length), I k ms W → w.heap.size ≤ W.heap.size → body.wpIn (F.inRound l) (n - 1 - 1) P (msPost w.heap.size I (k + 1) W) (a₁ ms[k]) W)
    (hdone : ∀ (D : Nat) (ms : List Int) (W : World), w.heap.size ≤ D → I ms.length ms W → W.heap[D]? = some (.deferred (some [])) → Q .normal { a with defers := { target := .collected D, args := #[] } :: a.defers } W) :
    (Code.rangeFunc g ps assign body).wpIn F n P Q a w := by
  refine wpIn_rangeFunc ?_
  intro fn hfn
  rw [hro]
  obtain ⟨rec, hrec⟩ : ∃ rec : LoopState → Option Code → Loop, rec = fun st pe => { state := st, pending := pe, fn, tmps := a.tmps, params := ps, assign, body, defers := w.heap.size } := ⟨_, rfl⟩
  obtain ⟨W1, hW1⟩ : ∃ W1, (w.alloc (.deferred (some []))).alloc (.loop (rec .ready none)) = W1 := ⟨_, rfl⟩
  have hL1 : W1.heap[w.heap.size + 1]? = some (.loop (rec .ready none)) := by
    rw [← hW1]; have := World.alloc_heap_new (w.alloc (.deferred (some []))) (.loop (rec .ready none)); rwa [World.size_alloc] at this
  have hK1 : W1.heap[w.heap.size]? = some (.deferred (some [])) := by
    rw [← hW1]; exact (Below.heap_alloc _ _ _ (by simp)).trans (World.alloc_heap_new w _)
  have hI1 : I 0 ms0 W1 := by rw [← hW1]; exact OwnFrom.alloc hI (s := (0, ms0)) _ (OwnFrom.alloc hI (s := (0, ms0)) _ h0)
  refine ⟨w.heap.size + 1, [{ target := .collected w.heap.size, args := #[] }], W1, { target := .fn (.func gf) lb, args := #[.func (.yield (w.heap.size + 1)) #[] #[]] }, W1, gf,
    #[.func (.yield (w.heap.size + 1)) #[] #[]] ++ lb, W1, ?_, ?_, ?_, ?_, fun _ => h1, ?_⟩
  · rw [← hW1, hrec]; exact run_enterLoop_outer _ _ _ _ _
  · simp only [resolve, hg]
    simp [go_sem]
  · intro f' hf'; simp [Target.leads] at hf'; subst hf'; exact hFg
  · simp [invoke, go_sem, eg]
  · refine (hseq (w.heap.size + 1)
      (fun k ms W => I k ms W ∧ W.heap[w.heap.size + 1]? = some (.loop (rec .ready none)) ∧ W.heap[w.heap.size]? = some (.deferred (some [])))
      W1 (fun k ms W h => hIs k ms W h.1) ?_ ⟨ms0, hI1, hL1, hK1⟩).mono ?_
    · -- one round
      rintro k ms W ⟨hi, hl, hk⟩ hlen
      have hlt : w.heap.size + 1 < W.heap.size := (Array.getElem?_eq_some_iff.1 hl).1
      have hy := run_yield (P := P) (args := #[Value.int .i64 ms[k]]) hl (by rw [hrec]; simp [hps])
      rw [hrec] at hy
      refine ⟨fn, _, assign, body, hy, roundIn_of_wpIn hfn (hassign _ ms[k] W _ ⟨_, run_beginRound hl (by rw [hrec]), ?_⟩)⟩
      have hl2 : (W.putObj (w.heap.size + 1) (.loop { rec .ready none with state := .busy })).heap[w.heap.size + 1]? = some (.loop { rec .ready none with state := .busy }) := World.putObj_heap_same hlt
      have hk2 : (W.putObj (w.heap.size + 1) (.loop { rec .ready none with state := .busy })).heap[w.heap.size]? = some (.deferred (some [])) := (World.putObj_heap_other (by omega)).trans hk
      refine wpIn_mono (hbody _ k ms _ hlen (OwnFrom.putObj hI (s := (k, ms)) _ hi (by omega) hl rfl) (by simp; omega)) ?_
      rintro e a3 W3 hp
      cases e with
      | normal =>
        obtain ⟨hk3, ms', hi3⟩ := hp
        have hl3 := hk3.same _ _ (by omega) hl2 rfl
        have hr := run_endRound (P := P) none hl3
        rw [hrec] at hr hl3
        refine ⟨_, _, hr, rfl, ms', OwnFrom.putObj hI (s := (k + 1, ms')) _ hi3 (by omega) hl3 rfl, ?_, ?_⟩
        · rw [hrec]
          exact World.putObj_heap_same (Array.getElem?_eq_some_iff.1 hl3).1
        · exact (World.putObj_heap_other (by omega)).trans (hk3.same _ _ (Nat.le_refl _) hk2 rfl)
      | ret => exact hp.elim
      | exit id => exact hp.elim
      | goto t => exact hp.elim
      | panic ch => exact hp.elim
      | outgrown => exact hp.elim
    · -- behind the iterator
      rintro e W2 ⟨⟨v, rfl⟩, ms, hi, hl, hk⟩
      exact ⟨none, _, by have := run_endLoop (P := P) hl (by rw [hrec]; simp); rw [hrec] at this; exact this, hdone _ ms _ (Nat.le_refl _) (OwnFrom.putObj hI (s := (ms.length, ms)) _ hi (by omega) hl rfl) ((World.putObj_heap_other (by omega)).trans hk)⟩

/-- The members of a set, as they can be read. -/
def MemIn (w : World) (S : Nat) (ms : List Int) : Prop := ∃ A c, w.cell? ⟨S, 0, none⟩ = some (.slice A ms.length c) ∧ IntsIn w 0 w.heap.size A ms
theorem NumSet.mem {w : World} {M R0 : Nat} {us : List Int} {v : Value} (h : NumSet w M R0 us v) : MemIn w (M + 1) us := by
  obtain ⟨A, c, rfl, _, _, hi⟩ := h.ints
  exact ⟨A, c, h.cell0, hi.ints.low (Nat.zero_le _)⟩

set_option maxRecDepth 100000 in
set_option maxHeartbeats 1000000 in
/-- 's.each()' -/
theorem each_in (n : Nat) (p : Option Addr) (w : World) :
    CallsIn Fence.wide n Tryd.prog 72 #[.pointer p] w fun e w' => e = .returned (.func (.func 78) #[] #[.pointer (some ⟨w.heap.size, 0, none⟩)]) ∧ w' = w.alloc (.cells #[.pointer p] 98) := by
  refine callsIn_of_wp Tryd.func72 rfl trivial ?_ rfl
  simp only [Tryd.ntmps72, List.size_toArray, List.length_cons, List.length_nil, Nat.reduceAdd, Nat.reduceSub, Array.replicate_succ, Array.replicate_zero, List.push_toArray, List.append_toArray, List.nil_append, List.cons_append]
  gi_wp2
  go_ret
  exact ⟨rfl, rfl⟩

set_option maxRecDepth 100000 in
set_option maxHeartbeats 2000000 in
/-- What 's.each()' hands back gives the members, as many as there are when it comes to the end. -/
theorem each1_seq (n Bn S N : Nat) (hn : 1 ≤ n) (hN : N ≤ 1048576) :
    SeqMs Fence.wide n Tryd.prog 78 #[.pointer (some ⟨Bn, 0, none⟩)] (fun ms w => w.cell? ⟨Bn, 0, none⟩ = some (.pointer (some ⟨S, 0, none⟩)) ∧ MemIn w S ms) N := by
  intro l J W hJ hY h0
  have HJ := Lib.hid hJ
  have HY := Lib.hid hY
  clear hJ hY
  refine callsIn_of_wp Tryd.func78 rfl trivial ?_ rfl
  simp only [Tryd.ntmps78, List.size_toArray, List.length_cons, List.length_nil, Nat.reduceAdd, Nat.reduceSub, Array.replicate_succ, Array.replicate_zero, List.push_toArray, List.append_toArray, List.nil_append, List.cons_append]
  gi_wp2
  gi_loopw [3] (fun i wr => ∃ (k : Nat) (ms : List Int), i = .int .i64 k ∧ J k ms wr) (fun i _ => N - (intOf i).toNat)
  case atStart =>
    obtain ⟨ms, h⟩ := h0
    exact ⟨0, ms, rfl, h⟩
  case round =>
    obtain ⟨k, ms, rfl, hj⟩ := hrel
    obtain ⟨⟨hb, A, c, hs, hA⟩, hk, hms⟩ := HJ.out _ _ _ hj
    have Hj := Lib.hid hj
    clear hj
    by_cases hlt : k < ms.length
    · obtain ⟨fn, tmps, assign, body, hy, hR⟩ := HY.out k ms wr Hj.out hlt
      obtain ⟨g, o, rfl, _, hg, hc⟩ := hA (by omega)
      have c0 := hc k hlt
      have hd : 1 ≤ n := hn
      generalize ms[k] = x at c0 hy
      clear hc
      gi_wp2
      refine hR.mono ?_
      rintro e W3 ⟨rfl, ms', hj3⟩
      have hm3 := HJ.out _ _ _ hj3
      gi_wp2
      go_roundw
      case rel => exact ⟨k + 1, ms', by go_num, hj3⟩
      case measure => simp [intOf]; omega
    · have hke : k = ms.length := by omega
      have HR := Lib.hid (show ∃ ms, J ms.length ms wr from ⟨ms, hke ▸ Hj.out⟩)
      gi_wp2
      go_end0
      exact ⟨⟨_, rfl⟩, HR.out⟩

end Go.Proofs.YtkmoihkpaccbdaaDoor

namespace Go.Proofs.YtkmoihkpaccbdaaDoor
open Go.RowKit Go.Maps Go.Shelf
attribute [local go_sem] Oper.semAt_some

theorem map_vint (l : List Int) : l.map vint = l.map (Value.int .i64) := rfl

/-- The numbers, ascending. -/
def sortV (l : List Int) : List Int := l.mergeSort fun x y => decide (x ≤ y)
theorem sortV_length (l : List Int) : (sortV l).length = l.length := List.length_mergeSort _

end Go.Proofs.YtkmoihkpaccbdaaDoor

namespace Go.Proofs.YtkmoihkpaccbdaaDoor
open Go.RowKit Go.Maps

/-! ascending lists -/
def Asc (l : List Int) : Prop := l.Pairwise (· < ·)

theorem asc_ext {l m : List Int} (hl : Asc l) (hm : Asc m) (h : ∀ x, x ∈ l ↔ x ∈ m) : l = m := by
  unfold Asc at hl hm
  induction l generalizing m with
  | nil =>
    cases m with
    | nil => rfl
    | cons y ys => exact absurd ((h y).2 (by simp)) (by simp)
  | cons x xs ih =>
    cases m with
    | nil => exact absurd ((h x).1 (by simp)) (by simp)
    | cons y ys =>
      rw [List.pairwise_cons] at hl hm
      have hxy : x = y := by
        have h1 := (h x).1 (by simp)
        have h2 := (h y).2 (by simp)
        simp at h1 h2
        rcases h1 with rfl | h1
        · rfl
        · rcases h2 with h2 | h2
          · exact h2.symm
          · have := hm.1 x h1
            have := hl.1 y h2
            omega
      subst hxy
      congr 1
      refine ih hl.2 hm.2 fun z => ?_
      constructor
      · intro hz
        have h1 := (h z).1 (by simp [hz])
        simp at h1
        rcases h1 with rfl | h1
        · have := hl.1 z hz; omega
        · exact h1
      · intro hz
        have h1 := (h z).2 (by simp [hz])
        simp at h1
        rcases h1 with rfl | h1
        · have := hm.1 z hz; omega
        · exact h1

theorem mem_pick {f : Nat → Bool} {n : Nat} {x : Int} : x ∈ pick f n ↔ ∃ j : Nat, j < n ∧ x = (j : Int) ∧ f j = true := by
  induction n with
  | zero => simp [pick]
  | succ n ih =>
    unfold pick
    split
    · rename_i h
      rw [List.mem_append, ih]
      simp only [List.mem_singleton]
      constructor
      · rintro (⟨j, h1, h2, h3⟩ | rfl)
        · exact ⟨j, by omega, h2, h3⟩
        · exact ⟨n, by omega, rfl, h⟩
      · rintro ⟨j, h1, h2, h3⟩
        by_cases e : j = n
        · subst e; exact .inr h2
        · exact .inl ⟨j, by omega, h2, h3⟩
    · rename_i h
      rw [ih]
      constructor
      · rintro ⟨j, h1, h2, h3⟩
        exact ⟨j, by omega, h2, h3⟩
      · rintro ⟨j, h1, h2, h3⟩
        by_cases e : j = n
        · subst e; exact absurd h3 h
        · exact ⟨j, by omega, h2, h3⟩

theorem asc_pick (f : Nat → Bool) (n : Nat) : Asc (pick f n) := by
  unfold Asc
  induction n with
  | zero => simp [pick]
  | succ n ih =>
    unfold pick
    split
    · rw [List.pairwise_append]
      refine ⟨ih, by simp, fun x hx y hy => ?_⟩
      obtain ⟨j, hj, rfl, _⟩ := mem_pick.1 hx
      simp at hy
      omega
    · exact ih

theorem mem_sortV {l : List Int} {x : Int} : x ∈ sortV l ↔ x ∈ l := (List.mergeSort_perm l _).mem_iff
theorem asc_sortV {l : List Int} (h : l.Nodup) : Asc (sortV l) := by
  have h1 : (sortV l).Pairwise fun x y => decide (x ≤ y) = true := List.pairwise_mergeSort (fun a b c h1 h2 => by simp at *; omega) (fun a b => by simp; omega) l
  have h2 : (sortV l).Nodup := (List.mergeSort_perm l _).nodup_iff.2 h
  unfold Asc
  unfold List.Nodup at h2
  refine (h1.and h2).imp fun hxy => ?_
  obtain ⟨h3, h4⟩ := hxy
  simp at h3
  omega

/-- A list without doubles, sorted, is the places of its members. -/
theorem sort_pick {l : List Int} {f : Nat → Bool} {n : Nat} (hn : l.Nodup) (h : ∀ x, x ∈ l ↔ ∃ j : Nat, j < n ∧ x = (j : Int) ∧ f j = true) : sortV l = pick f n :=
  asc_ext (asc_sortV hn) (asc_pick f n) fun x => by rw [mem_sortV, h, mem_pick]
theorem asc_filter {l : List Int} (h : Asc l) (p : Int → Bool) : Asc (l.filter p) := List.Pairwise.filter _ h
theorem nodup_of_asc {l : List Int} (h : Asc l) : l.Nodup := by
  unfold Asc at h
  unfold List.Nodup
  exact h.imp fun h => by omega
theorem sort_asc {l : List Int} (h : Asc l) : sortV l = l := asc_ext (asc_sortV (nodup_of_asc h)) h fun _ => mem_sortV

open Classical in
theorem nodup_length {l : List Int} {n : Nat} (hn : l.Nodup) (h : ∀ x ∈ l, 0 ≤ x ∧ x < n) : l.length ≤ n := by
  have e := sort_pick (f := fun j => decide ((j : Int) ∈ l)) (n := n) hn fun x => by
    constructor
    · intro hx
      have := h x hx
      exact ⟨x.toNat, by omega, by omega, by rw [show ((x.toNat : Nat) : Int) = x by omega]; simpa using hx⟩
    · rintro ⟨j, _, rfl, hj⟩
      simpa using hj
  rw [← sortV_length, e]
  exact pick_length _ _

/-! what is gone through, what waits -/

/-- ms: what is had so far; the first k of it have been gone through; G: what waits by a key. -/
structure Opn (ts : List Tm) (h : Nat → Bool) (k : Nat) (ms : List Int) (G : Int → List Int) : Prop where
  nd : ms.Nodup
  rng : ∀ x ∈ ms, 0 ≤ x ∧ x < ts.length
  sound : ∀ x ∈ ms, Op ts h x.toNat
  had : ∀ j : Nat, h j = true → (j : Int) ∈ ms
  kle : k ≤ ms.length
  pair : ∀ x ∈ ms.take k, (tmAt ts x.toNat).kind = 3 → (tmAt ts x.toNat).a ∈ ms ∧ (tmAt ts x.toNat).b ∈ ms
  sign : ∀ x ∈ ms.take k, (tmAt ts x.toNat).kind = 6 → (tmAt ts x.toNat).b ∈ ms
  lock : ∀ x ∈ ms.take k, (tmAt ts x.toNat).kind = 5 → (tmAt ts x.toNat).b ∈ ms ∨ ((tmAt ts x.toNat).b ∈ G (tmAt ts x.toNat).a ∧ (tmAt ts x.toNat).a ∉ ms.take k)
  wait : ∀ a x : Int, x ∈ G a → 0 ≤ x ∧ x < ts.length ∧ (Op ts h a.toNat → Op ts h x.toNat)

section
variable {ts : List Tm} {h : Nat → Bool} {k : Nat} {ms : List Int} {G : Int → List Int}

theorem Opn.length (o : Opn ts h k ms G) : ms.length ≤ ts.length := nodup_length o.nd o.rng

theorem Opn.start {ms : List Int} (hnd : ms.Nodup) (hm : ∀ x, x ∈ ms ↔ ∃ j : Nat, j < ts.length ∧ x = (j : Int) ∧ h j = true) (hh : ∀ j, h j = true → j < ts.length) : Opn ts h 0 ms (fun _ => []) where
  nd := hnd
  rng x hx := by obtain ⟨j, hj, rfl, _⟩ := (hm x).1 hx; omega
  sound x hx := by obtain ⟨j, hj, rfl, h1⟩ := (hm x).1 hx; exact .had (by simpa using h1)
  had j hj := (hm _).2 ⟨j, hh j hj, rfl, hj⟩
  kle := Nat.zero_le _
  pair x hx := by simp at hx
  sign x hx := by simp at hx
  lock x hx := by simp at hx
  wait a x hx := by simp at hx

/-- One more is gone through: es is added to what is had. -/
theorem Opn.step (o : Opn ts h k ms G) (hk : k < ms.length) (es : List Int) (G' : Int → List Int)
    (hes : ∀ x ∈ es, 0 ≤ x ∧ x < ts.length ∧ Op ts h x.toNat)
    (hG : ∀ a x, x ∈ G' a → x ∈ G a ∨ (0 ≤ x ∧ x < ts.length ∧ (Op ts h a.toNat → Op ts h x.toNat)))
    (hGm : ∀ a x, x ∈ G a → x ∈ G' a)
    (h3 : (tmAt ts ms[k].toNat).kind = 3 → (tmAt ts ms[k].toNat).a ∈ addAll ms es ∧ (tmAt ts ms[k].toNat).b ∈ addAll ms es)
    (h6 : (tmAt ts ms[k].toNat).kind = 6 → (tmAt ts ms[k].toNat).b ∈ addAll ms es)
    (h5 : (tmAt ts ms[k].toNat).kind = 5 → (tmAt ts ms[k].toNat).b ∈ addAll ms es ∨ ((tmAt ts ms[k].toNat).b ∈ G' (tmAt ts ms[k].toNat).a ∧ (tmAt ts ms[k].toNat).a ∉ ms))
    (h1 : ∀ x ∈ ms.take k, (tmAt ts x.toNat).kind = 5 → (tmAt ts x.toNat).a = ms[k] → (tmAt ts x.toNat).b ∈ G ms[k] → (tmAt ts x.toNat).b ∈ addAll ms es) : Opn ts h (k + 1) (addAll ms es) G' := by
  have hpre : ms <+: addAll ms es := prefix_addAll ms es
  obtain ⟨tl, htl⟩ := hpre
  have htake : (addAll ms es).take (k + 1) = ms.take k ++ [ms[k]] := by
    rw [← htl, List.take_append_of_le_length (by omega), List.take_succ_eq_append_getElem hk]
  have hsub : ∀ x, x ∈ ms → x ∈ addAll ms es := fun x hx => mem_addAll.2 (.inl hx)
  have hmem : ∀ x, x ∈ ms.take k → x ∈ ms := fun x hx => List.mem_of_mem_take hx
  refine ⟨nodup_addAll o.nd es, fun x hx => ?_, fun x hx => ?_, fun j hj => hsub _ (o.had j hj), ?_, fun x hx => ?_, fun x hx => ?_, fun x hx => ?_, fun a x hx => ?_⟩
  · rcases mem_addAll.1 hx with hx | hx
    · exact o.rng x hx
    · exact ⟨(hes x hx).1, (hes x hx).2.1⟩
  · rcases mem_addAll.1 hx with hx | hx
    · exact o.sound x hx
    · exact (hes x hx).2.2
  · rw [← htl, List.length_append]
    omega
  · rw [htake, List.mem_append, List.mem_singleton] at hx
    rcases hx with hx | rfl
    · exact fun e => ⟨hsub _ (o.pair x hx e).1, hsub _ (o.pair x hx e).2⟩
    · exact h3
  · rw [htake, List.mem_append, List.mem_singleton] at hx
    rcases hx with hx | rfl
    · exact fun e => hsub _ (o.sign x hx e)
    · exact h6
  · rw [htake, List.mem_append, List.mem_singleton] at hx
    intro e
    rw [htake]
    rcases hx with hx | rfl
    · rcases o.lock x hx e with h' | ⟨h', h''⟩
      · exact .inl (hsub _ h')
      · by_cases ea : (tmAt ts x.toNat).a = ms[k]
        · exact .inl (h1 x hx e ea (ea ▸ h'))
        · refine .inr ⟨hGm _ _ h', ?_⟩
          rw [List.mem_append, List.mem_singleton]
          rintro (hh | hh)
          · exact h'' hh
          · exact ea hh
    · rcases h5 e with h' | ⟨h', h''⟩
      · exact .inl h'
      · refine .inr ⟨h', ?_⟩
        rw [List.mem_append, List.mem_singleton]
        rintro (hh | hh)
        · exact h'' (hmem _ hh)
        · exact h'' (by rw [hh]; exact List.getElem_mem hk)
  · rcases hG a x hx with h' | h'
    · exact o.wait a x h'
    · exact h'

/-- When all has been gone through, all is had. -/
theorem Opn.done (hok : LOk ts) (o : Opn ts h ms.length ms G) (x : Int) : x ∈ ms ↔ ∃ j : Nat, j < ts.length ∧ x = (j : Int) ∧ opB ts h j = true := by
  have hp := o.pair
  have hs := o.sign
  have hl := o.lock
  rw [List.take_length] at hp hs hl
  constructor
  · intro hx
    have := o.rng x hx
    exact ⟨x.toNat, by omega, by omega, (opB_iff _ _ _).2 (o.sound x hx)⟩
  · rintro ⟨j, hj, rfl, ho⟩
    have := op_closed (f := fun i => inB ms (i : Int)) (fun i hi => by simpa [inB] using o.had i hi) (fun i hi p hpv => by
      have hi' : (i : Int) ∈ ms := by simpa [inB] using hi
      have hilt := (o.rng _ hi').2
      have hb := gives_below hok (show i < ts.length by omega) _ hpv
      have hpe : ((p.toNat : Nat) : Int) = p := by omega
      simp only [inB, decide_eq_true_eq]
      rw [hpe]
      unfold givesV at hpv
      split at hpv
      · rename_i h3
        have := hp _ hi' (by simpa using h3)
        simp at hpv this
        rcases hpv with rfl | rfl
        · exact this.1
        · exact this.2
      · split at hpv
        · rename_i h6
          have := hs _ hi' (by simpa using h6)
          simp at hpv this
          rw [hpv]
          exact this
        · split at hpv
          · rename_i h5
            split at hpv
            · rename_i hkey
              simp at hpv
              have := hl _ hi' (by simpa using h5)
              simp at this
              rw [hpv]
              rcases this with h' | ⟨_, h'⟩
              · exact h'
              · refine absurd ?_ h'
                have ha := (lock_key hok (show i < ts.length by omega) h5).2.1
                have hk' : inB ms ((tmAt ts i).a.toNat : Int) = true := hkey
                rw [show (((tmAt ts i).a.toNat : Nat) : Int) = (tmAt ts i).a by omega] at hk'
                simpa [inB] using hk'
            · simp at hpv
          · simp at hpv) ((opB_iff _ _ _).1 ho)
    simpa [inB] using this
/-- One that is no key is gone through. -/
theorem Opn.plain (hok : LOk ts) (o : Opn ts h k ms G) (hk : k < ms.length) {t : Tm} (ht : tmAt ts ms[k].toNat = t) (es : List Int) (G' : Int → List Int)
    (hes : ∀ x ∈ es, 0 ≤ x ∧ x < ts.length ∧ Op ts h x.toNat)
    (hG : ∀ a x, x ∈ G' a → x ∈ G a ∨ (0 ≤ x ∧ x < ts.length ∧ (Op ts h a.toNat → Op ts h x.toNat)))
    (hGm : ∀ a x, x ∈ G a → x ∈ G' a)
    (h3 : t.kind = 3 → t.a ∈ addAll ms es ∧ t.b ∈ addAll ms es) (h6 : t.kind = 6 → t.b ∈ addAll ms es)
    (h5 : t.kind = 5 → t.b ∈ addAll ms es ∨ (t.b ∈ G' t.a ∧ t.a ∉ ms)) (h1 : t.kind ≠ 1) : Opn ts h (k + 1) (addAll ms es) G' := by
  subst ht
  refine o.step hk es G' hes hG hGm h3 h6 h5 fun x hx hx5 ha _ => ?_
  have hr := o.rng x (List.mem_of_mem_take hx)
  have := (lock_key hok (i := x.toNat) (by omega) hx5).2.2
  rw [ha] at this
  exact absurd this h1

theorem Opn.part (hok : LOk ts) (o : Opn ts h k ms G) (hk : k < ms.length) {t : Tm} (ht : tmAt ts ms[k].toNat = t) {p : Int} (hp : p ∈ partsV t) : 0 ≤ p ∧ p < ts.length := by
  have hr := o.rng _ (List.getElem_mem hk)
  have := parts_below hok (show ms[k].toNat < ts.length by omega) (ht ▸ hp)
  omega
theorem Opn.here (o : Opn ts h k ms G) (hk : k < ms.length) : Op ts h ms[k].toNat := o.sound _ (List.getElem_mem hk)

theorem Opn.none (hok : LOk ts) (o : Opn ts h k ms G) (hk : k < ms.length) {t : Tm} (ht : tmAt ts ms[k].toNat = t) (hkd : t.kind = 0 ∨ t.kind = 2 ∨ t.kind = 4) : Opn ts h (k + 1) ms G :=
  o.plain hok hk ht [] G (by simp) (fun _ _ h => .inl h) (fun _ _ h => h) (by omega) (by omega) (by omega) (by omega)
theorem Opn.pairs (hok : LOk ts) (o : Opn ts h k ms G) (hk : k < ms.length) {t : Tm} (ht : tmAt ts ms[k].toNat = t) (hkd : t.kind = 3) : Opn ts h (k + 1) (addAll ms [t.a, t.b]) G := by
  have ha := o.part hok hk ht (p := t.a) (by simp [partsV, hkd])
  have hb := o.part hok hk ht (p := t.b) (by simp [partsV, hkd])
  refine o.plain hok hk ht [t.a, t.b] G (fun x hx => ?_) (fun _ _ h => .inl h) (fun _ _ h => h) (fun _ => ⟨mem_addAll.2 (.inr (by simp)), mem_addAll.2 (.inr (by simp))⟩) (by omega) (by omega) (by omega)
  simp at hx
  rcases hx with rfl | rfl
  · exact ⟨ha.1, ha.2, ht ▸ Op.pairL (o.here hk) (ht ▸ hkd)⟩
  · exact ⟨hb.1, hb.2, ht ▸ Op.pairR (o.here hk) (ht ▸ hkd)⟩
theorem Opn.signs (hok : LOk ts) (o : Opn ts h k ms G) (hk : k < ms.length) {t : Tm} (ht : tmAt ts ms[k].toNat = t) (hkd : t.kind = 6) : Opn ts h (k + 1) (addAll ms [t.b]) G := by
  have hb := o.part hok hk ht (p := t.b) (by simp [partsV, hkd])
  refine o.plain hok hk ht [t.b] G (fun x hx => ?_) (fun _ _ h => .inl h) (fun _ _ h => h) (by omega) (fun _ => mem_addAll.2 (.inr (by simp))) (by omega) (by omega)
  simp at hx
  subst hx
  exact ⟨hb.1, hb.2, ht ▸ Op.sign (o.here hk) (ht ▸ hkd)⟩
theorem Opn.lock1 (hok : LOk ts) (o : Opn ts h k ms G) (hk : k < ms.length) {t : Tm} (ht : tmAt ts ms[k].toNat = t) (hkd : t.kind = 5) (hkey : t.a ∈ ms) : Opn ts h (k + 1) (addAll ms [t.b]) G := by
  have hb := o.part hok hk ht (p := t.b) (by simp [partsV, hkd])
  refine o.plain hok hk ht [t.b] G (fun x hx => ?_) (fun _ _ h => .inl h) (fun _ _ h => h) (by omega) (by omega) (fun _ => .inl (mem_addAll.2 (.inr (by simp)))) (by omega)
  simp at hx
  subst hx
  exact ⟨hb.1, hb.2, ht ▸ Op.lock (o.here hk) (ht ▸ hkd) (ht.symm ▸ o.sound _ hkey)⟩
theorem Opn.lock0 (hok : LOk ts) (o : Opn ts h k ms G) (hk : k < ms.length) {t : Tm} (ht : tmAt ts ms[k].toNat = t) (hkd : t.kind = 5) (hkey : t.a ∉ ms) : Opn ts h (k + 1) ms (fun y => if y = t.a then G t.a ++ [t.b] else G y) := by
  have hb := o.part hok hk ht (p := t.b) (by simp [partsV, hkd])
  refine o.plain hok hk ht [] _ (by simp) (fun a x hx => ?_) (fun a x hx => ?_) (by omega) (by omega) (fun _ => .inr ⟨by simp, hkey⟩) (by omega)
  · split at hx
    · rename_i ha
      subst ha
      rw [List.mem_append, List.mem_singleton] at hx
      rcases hx with hx | rfl
      · exact .inl hx
      · exact .inr ⟨hb.1, hb.2, fun hop => ht ▸ Op.lock (o.here hk) (ht ▸ hkd) (ht.symm ▸ hop)⟩
    · exact .inl hx
  · split
    · rename_i ha
      subst ha
      simp [hx]
    · exact hx
theorem Opn.key (o : Opn ts h k ms G) (hk : k < ms.length) {t : Tm} (ht : tmAt ts ms[k].toNat = t) (hkd : t.kind = 1) : Opn ts h (k + 1) (addAll ms (G ms[k])) G := by
  subst ht
  refine o.step hk (G ms[k]) G (fun x hx => ?_) (fun _ _ h => .inl h) (fun _ _ h => h) (by omega) (by omega) (by omega) (fun x _ _ _ hx => mem_addAll.2 (.inr hx))
  obtain ⟨h1, h2, h3⟩ := o.wait _ _ hx
  exact ⟨h1, h2, h3 (o.here hk)⟩
end

end Go.Proofs.YtkmoihkpaccbdaaDoor

namespace Go.Proofs.YtkmoihkpaccbdaaDoor
open Go.RowKit Go.Maps Go.WideElems Go.MapKept Go.ChangeShapes

section
variable {P : Program} {k : TypeId} {w w' : World} {base : Nat} {e : TypeId} {q : IntKind} {b n : Nat} {D : DataW Unit}

theorem ownsInts_off {v : Value} {zs : List Int} {T : Nat → Prop} (h : w.ownsInts base e q v zs) (hb : Off T w w') (hv : ∀ g, v.ownBlock = some g → ¬ T g) : w'.ownsInts base e q v zs := by
  refine ⟨?_, h.2⟩
  obtain ⟨h3, h4 | ⟨g, cap, cur, rfl, hg, hh, h5, h6, h7, h8⟩⟩ := h.1
  · exact ⟨h3, .inl h4⟩
  · exact ⟨h3, .inr ⟨g, cap, cur, rfl, hg, (hb.block g (Array.getElem?_eq_some_iff.1 hh).1 (hv g rfl)).trans hh, h5, h6, h7, h8⟩⟩

/-- Over whatever turns neither the map nor a list in it. -/
theorem groups_off {T : Nat → Prop} (h : w.ownsGroups P k base e q b n D) (hb : Off T w w') (hT : ¬ T b) (hs : w.Shuns b T) : w'.ownsGroups P k base e q b n D := by
  obtain ⟨es, clock, hm, F, hz, rfl, hbb, hlen, hap⟩ := h
  have hblt : b < w.heap.size := (Array.getElem?_eq_some_iff.1 hm).1
  have hoff : ∀ x ∈ es.toList, ∀ g, x.val.ownBlock = some g → ¬ T g := fun x hx g hg => hs es clock hm x hx g hg
  have hst : ∀ x ∈ es.toList, ∀ z, rowElem (H := Unit) w base e q x.val = some z → rowElem w' base e q x.val = some z := fun x hx z hz => by
    obtain ⟨zs, ho, rfl⟩ := rowElem_inv hz
    exact rowElem_mk (ownsInts_off ho hb (hoff x hx))
  obtain ⟨F1, hmap, _⟩ := F.stay hst
  refine ⟨es, clock, (hb.block b hblt hT).trans hm, F1, hz, by rw [hmap], hbb, fun x hx zs ho => ?_, hap⟩
  obtain ⟨y, hy⟩ := F.reads x hx
  obtain ⟨z, hz', _⟩ := rd_val hy
  obtain ⟨zs0, ho0, _⟩ := rowElem_inv hz'
  rw [ho.unique (ownsInts_off ho0 hb (hoff x hx))]
  exact hlen x hx zs0 ho0

theorem shuns_off {T No : Nat → Prop} (h : w.Shuns b No) (hb : Off T w w') (hlt : b < w.heap.size) (hT : ¬ T b) : w'.Shuns b No := fun es clock hm =>
  h es clock ((hb.block b hlt hT).symm.trans hm)
theorem shuns_sub {No No' : Nat → Prop} (h : w.Shuns b No) (hn : ∀ g, No' g → No g) : w.Shuns b No' := fun es clock hm x hx g hg hN => h es clock hm x hx g hg (hn g hN)
/-- Lists lie from base on. -/
theorem groups_low (h : w.ownsGroups P k base e q b n D) : w.Shuns b (fun g => g < base) := fun es clock hm x hx g hg hN => by
  obtain ⟨es', clock', hm', F, _⟩ := h
  obtain ⟨rfl, rfl⟩ : es' = es ∧ clock' = clock := by rw [hm'] at hm; simpa using hm
  obtain ⟨y, hy⟩ := F.reads x hx
  obtain ⟨z, hz, _⟩ := rd_val hy
  obtain ⟨zs, hoi, _⟩ := rowElem_inv hz
  have := (hoi.1.lt g hg).1
  omega
theorem shuns_or {No No' : Nat → Prop} (h : w.Shuns b No) (h' : w.Shuns b No') : w.Shuns b (fun g => No g ∨ No' g) := fun es clock hm x hx g hg hN => by
  rcases hN with hN | hN
  · exact h es clock hm x hx g hg hN
  · exact h' es clock hm x hx g hg hN

theorem groups_made (h : w.heap[b]? = some (.map #[] 0)) (hb : b < base) : w.ownsGroups (H := Unit) P k base e q b 0 (.map []) :=
  ⟨#[], 0, h, ⟨by simp, stamped_empty 0, by simp⟩, Nat.le_refl _, rfl, hb, by simp, by simp⟩
theorem shuns_made {No : Nat → Prop} (h : w.heap[b]? = some (.map #[] 0)) : w.Shuns b No := fun es clock hm x hx => by
  rw [h] at hm
  cases hm
  simp at hx

theorem key_one {l : List MapEntry} (h : (l.map (·.key)).Nodup) {x y : MapEntry} (hx : x ∈ l) (hy : y ∈ l) (e : x.key = y.key) : x = y := by
  induction l with
  | nil => cases hx
  | cons a l ih =>
    simp only [List.map_cons, List.nodup_cons] at h
    rcases List.mem_cons.1 hx with rfl | hx'
    · rcases List.mem_cons.1 hy with rfl | hy'
      · rfl
      · exact absurd (List.mem_map.2 ⟨y, hy', e.symm⟩) h.1
    · rcases List.mem_cons.1 hy with rfl | hy'
      · exact absurd (List.mem_map.2 ⟨x, hx', e⟩) h.1
      · exact ih h.2 hx' hy'

/-- 'm[k]' in whatever world in which the map is as it is: one value, what it owns, and the way back. -/
theorem groups_look {t E : TypeId} {key : Value} {kl : Lit} (h : w.ownsGroups P k base e q b n D) (K : Keyed P k) (ht : P.underlying t = some (.map k E)) (hz : ∀ w, (zeroValue E).run P w = .ok (.slice none 0 0) w) (hn : n < maxLen) (hkey : keyOf P k key = some kl) :
    ∃ v zs, (∀ W : World, W.heap[b]? = w.heap[b]? → (Instr.lookup t (.map (some b)) key false).run P W = .ok v W) ∧ D.atKey kl .nil = rowDatum q v zs ∧ w.ownsInts base e q v zs ∧ zs.length ≤ n ∧ w.groupBack P t k base e q b n D key kl v ∧ ∀ No : Nat → Prop, w.Shuns b No → ∀ g, v.ownBlock = some g → ¬ No g := by
  obtain ⟨v, zs, hrun, hat, hoi, hzl, hback⟩ := h.at K ht (hz w) hn hkey
  obtain ⟨es, clock, hm, F, hs, hD, hbb, hlen, hap⟩ := h
  refine ⟨v, zs, fun W hW => ?_, hat, hoi, hzl, hback, ?_⟩
  · rcases Maps.fit_look false K ht (hz w) hm F hkey with ⟨h1, h2, _⟩ | ⟨e0, _, hm0, h3, h1, _⟩
    · rcases Maps.fit_look false K ht (hz W) (hW.trans hm) F hkey with ⟨h1', _, _⟩ | ⟨e1, _, hm1, h4, _⟩
      · rw [hrun] at h1
        rw [h1']
        simp at h1 ⊢
        exact h1.symm
      · exact absurd h4 (h2 e1 hm1)
    · rcases Maps.fit_look false K ht (hz W) (hW.trans hm) F hkey with ⟨_, h2', _⟩ | ⟨e1, _, hm1, h4, h1', _⟩
      · exact absurd h3 (h2' e0 hm0)
      · obtain rfl : e0 = e1 := key_one F.stamped.2.2 hm0 hm1 (h3.trans h4.symm)
        rw [hrun] at h1
        rw [h1']
        simp at h1 ⊢
        exact h1.symm
  · rcases Maps.fit_look false K ht (hz w) hm F hkey with ⟨h1, _, _⟩ | ⟨e0, _, hm0, _, h1, _⟩
    · rw [hrun] at h1
      obtain rfl : v = .slice none 0 0 := by simpa using h1
      intro _ _ g hg'
      cases hg'
    · rw [hrun] at h1
      obtain rfl : v = e0.val := by simpa using h1
      exact fun No hsh g hg' => hsh es clock hm e0 hm0 g hg'

/-- Behind a store by the way back: the lists still shun what they shunned, where the stored one does. -/
theorem shuns_stored {t E : TypeId} {key u : Value} {kl : Lit} {No : Nat → Prop} {w1 w2 : World} (h : w.ownsGroups P k base e q b n D) (K : Keyed P k) (ht : P.underlying t = some (.map k E)) (hn : n < maxLen) (hkey : keyOf P k key = some kl) (hsh : w.Shuns b No) (hm1 : w1.heap[b]? = w.heap[b]?) (hu : ∀ g, u.ownBlock = some g → ¬ No g)
    (hrun : (Instr.mapUpdate t (.map (some b)) key u).run P w1 = .ok () w2) : w2.Shuns b No := by
  obtain ⟨es, clock, hm, F, hs, _, hbb, _⟩ := h
  obtain ⟨es', clock', hb2, hwho⟩ := stored_who K ht (hm1.trans hm) F (Nat.lt_of_le_of_lt hs hn) hkey hrun
  intro es2 clock2 hb2' y hy g hyg
  obtain ⟨rfl, rfl⟩ : es' = es2 ∧ clock' = clock2 := by rw [hb2] at hb2'; simpa using hb2'
  rcases hwho y hy with ⟨hy0, _⟩ | ⟨_, hval⟩
  · exact hsh es clock hm y hy0 g hyg
  · exact hu g (hval ▸ hyg)
end

/-- The datum says what waits by each key. -/
def Gs (D : DataW Unit) (G : Int → List Int) : Prop := IsMap D ∧ ∀ a, (D.atKey (klI a) .nil = .nil ∧ G a = []) ∨ D.atKey (klI a) .nil = .slice (lits .i64 (G a)) []

theorem lits_inj {l m : List Int} (h : (lits (H := Unit) .i64 l) = lits .i64 m) : l = m := by
  unfold lits at h
  exact (List.map_inj_right (fun a b hab => by simpa using hab)).1 h

theorem Gs.made : Gs (.map []) (fun _ => []) := ⟨isMap_empty, fun _ => .inl ⟨rfl, rfl⟩⟩
theorem Gs.at {D : DataW Unit} {G : Int → List Int} (h : Gs D G) {w : World} {base : Nat} {e : TypeId} {v : Value} {zs : List Int} {a : Int} (hat : D.atKey (klI a) .nil = rowDatum .i64 v zs) (ho : w.ownsInts base e .i64 v zs) : G a = zs := by
  rcases h.2 a with ⟨h1, h2⟩ | h1 <;> rcases ho.datum (H := Unit) with ⟨h3, h4⟩ | h3
  · rw [h2, h4]
  · rw [h1, h3] at hat; cases hat
  · rw [h1, h3] at hat; cases hat
  · rw [h1, h3] at hat
    injection hat with h5
    exact lits_inj h5
theorem Gs.put {D : DataW Unit} {G : Int → List Int} (h : Gs D G) {w : World} {base : Nat} {e : TypeId} {v : Value} {zs : List Int} (a : Int) (ho : w.ownsInts base e .i64 v zs) : Gs (D.put (klI a) (rowDatum .i64 v zs)) (fun y => if y = a then zs else G y) := by
  refine ⟨h.1.put _ _, fun y => ?_⟩
  by_cases e : y = a
  · subst e
    rw [atKey_put_same h.1 (klI_key _)]
    simp only [if_pos]
    rcases ho.datum (H := Unit) with ⟨h3, h4⟩ | h3
    · exact .inl ⟨h3, h4⟩
    · exact .inr h3
  · rw [atKey_put_other (fun h' => e (by unfold klI at h'; injection h'))]
    simp only [if_neg e]
    exact h.2 y

end Go.Proofs.YtkmoihkpaccbdaaDoor

namespace Go.Proofs.YtkmoihkpaccbdaaDoor
open Go.RowKit Go.Maps Go.Shelf
attribute [local go_sem] Oper.semAt_some

section
variable {F : Fence} {n : Nat} {P : Program} {ops : Array Oper} {Q : Exit → Act → World → Prop}

theorem opIn_value {i : Nat} {o : Oper} {a : Act} {w w' : World} {v : Value} {K : Act → World → Prop} (ho : ops[i]? = some o) (hg : o.guard = none) (hnd : ∀ c, o.op ≠ .defer c) (hab : ∀ f, o.about P w a.eval = some f → F.fn f)
    (hrun : (execOp a.eval o).run P w = .ok (.value v) w') (hK : K (a.put o.dst v) w') : wpOpIn F n P ops Q i K a w := by
  unfold wpOpIn
  rw [ho]
  simp only [Region.wanted, hg, if_true]
  unfold Oper.wpIn
  rw [Oper.semAt_eq _ _ _ hnd, hrun]
  exact ⟨hab, hK⟩
theorem opIn_skip {i : Nat} {o : Oper} {a : Act} {w w' : World} {K : Act → World → Prop} (ho : ops[i]? = some o) (hg : o.guard = none) (hnd : ∀ c, o.op ≠ .defer c) (hab : ∀ f, o.about P w a.eval = some f → F.fn f)
    (hrun : (execOp a.eval o).run P w = .ok .skip w') (hK : K (a.put o.dst undef) w') : wpOpIn F n P ops Q i K a w := by
  unfold wpOpIn
  rw [ho]
  simp only [Region.wanted, hg, if_true]
  unfold Oper.wpIn
  rw [Oper.semAt_eq _ _ _ hnd, hrun]
  exact ⟨hab, hK⟩

/-- L: what has been carried out. -/
theorem wpIn_region_inv {id : Nat} {a : Act} {w : World} (hm : P.follows .mixedOrders = true) (Inv : (Nat → Bool) → Act → World → Prop)
    (hdep : ∀ (i : Nat) (o : Oper), ops[i]? = some o → ∀ e ∈ o.after, e.on < i)
    (hstep : ∀ (L : Nat → Bool) (a : Act) (w : World) (i : Nat) (o : Oper), Inv L a w → ops[i]? = some o → L i = false → (∀ e ∈ o.after, Region.binds .any e = true → L e.on = true) → wpOpIn F n P ops Q i (Inv fun j => if j = i then true else L j) a w)
    (hend : ∀ (L : Nat → Bool) (a : Act) (w : World), Inv L a w → (∀ i, i < ops.size → L i = true) → Q .normal a w)
    (h0 : Inv (fun _ => false) a { w with drawn := w.drawn + 1 }) : (Code.region id ops true).wpIn F n P Q a w := by
  refine wpIn_region_any hm ?_
  have key : ∀ (fuel : Nat) (listed : Array Bool) (L : Nat → Bool) (a : Act) (w : World), listed.size = ops.size → (∀ i, i < ops.size → L i = listed.getD i true) → Inv L a w →
      ((List.range ops.size).filter fun i => !L i).length ≤ fuel → wpAnyIn F n P .any ops Q fuel listed a w := by
    intro fuel
    have hready : ∀ (listed : Array Bool) (L : Nat → Bool), listed.size = ops.size → (∀ i, i < ops.size → L i = listed.getD i true) → Region.ready .any ops listed = [] → ∀ i, i < ops.size → L i = true := by
      intro listed L hs hL hr i
      induction i using Nat.strongRecOn with
      | _ i ih =>
        intro hi
        by_cases hl : L i = true
        · exact hl
        · exfalso
          have hmem : i ∈ Region.ready .any ops listed := by
            rw [mem_ready]
            refine ⟨by rw [← hL i hi]; simpa using hl, ops[i], by simp [hi], fun e he _ => ?_⟩
            have hlt := hdep i ops[i] (by simp [hi]) e he
            have := ih e.on hlt (by omega)
            rw [hL e.on (by omega)] at this
            have h1 : e.on < listed.size := by omega
            simp [h1] at this ⊢
            exact this
          rw [hr] at hmem
          cases hmem
    induction fuel with
    | zero =>
      intro listed L a w hs hL hI hf
      have hall : ∀ i, i < ops.size → L i = true := fun i hi => by
        by_cases hl : L i = true
        · exact hl
        · exfalso
          have hmem : i ∈ (List.range ops.size).filter fun i => !L i := by simp [hi, hl]
          have := List.length_pos_of_mem hmem
          omega
      refine ⟨?_, hend L a w hI hall⟩
      rw [List.eq_nil_iff_forall_not_mem]
      intro i hi
      obtain ⟨h1, o, ho, _⟩ := mem_ready.1 hi
      have hlt := (Array.getElem?_eq_some_iff.1 ho).1
      rw [← hL i hlt, hall i hlt] at h1
      cases h1
    | succ fuel ih =>
      intro listed L a w hs hL hI hf
      refine ⟨fun hr => hend L a w hI (hready listed L hs hL hr), fun i hi => ?_⟩
      obtain ⟨h1, o, ho, hdeps⟩ := mem_ready.1 hi
      have hlt := (Array.getElem?_eq_some_iff.1 ho).1
      have hLi : L i = false := by rw [hL i hlt]; exact h1
      refine wpOpIn_mono (fun a' w' hI' => ih (listed.setIfInBounds i true) (fun j => if j = i then true else L j) a' w' (by simp [hs]) (fun j hj => ?_) hI' ?_) (hstep L a w i o hI ho hLi fun e he hb => ?_)
      · by_cases e : j = i
        · subst e
          simp [hs, hlt]
        · rw [if_neg e, getD_set_ne true (Ne.symm e)]
          exact hL j hj
      · have hsplit : ((List.range ops.size).filter fun j => !(if j = i then true else L j)).length + 1 ≤ ((List.range ops.size).filter fun j => !L j).length := by
          have h2 : (List.range ops.size).filter (fun j => !(if j = i then true else L j)) = ((List.range ops.size).filter fun j => !L j).filter (fun j => j != i) := by
            rw [List.filter_filter]
            congr 1
            funext j
            by_cases e : j = i
            · subst e; simp
            · simp [e]
          rw [h2]
          have h3 : i ∈ (List.range ops.size).filter fun j => !L j := by simp [hlt, hLi]
          exact List.length_filter_lt_length_iff_exists.2 ⟨i, h3, by simp⟩
        omega
      · have h2 := hdeps e he hb
        have h3 := hdep i o ho e he
        rw [hL e.on (by omega)]
        have h4 : e.on < listed.size := by omega
        simp [h4] at h2 ⊢
        exact h2
  refine key ops.size (Array.replicate ops.size false) (fun _ => false) a _ (by simp) (fun i hi => ?_) h0 ?_
  · simp [hi]
  · exact Nat.le_trans (List.length_filter_le _ _) (by simp)
end

end Go.Proofs.YtkmoihkpaccbdaaDoor

namespace Go.Proofs.YtkmoihkpaccbdaaDoor
open Go.RowKit Go.Maps Go.Shelf

/-- What the operations give, by their places. -/
def apV (Bx K N : Nat) (a b : Int) (vg v' : Value) : Nat → Value
  | 0 => .map (some K)
  | 1 => .pointer (some ⟨Bx, 0, none⟩)
  | 2 => .int .i64 a
  | 3 => .map (some K)
  | 4 => .pointer (some ⟨Bx, 0, none⟩)
  | 5 => .int .i64 a
  | 6 => vg
  | 7 => .pointer (some ⟨Bx, 1, none⟩)
  | 8 => .int .i64 b
  | 9 => .slice (some ⟨N, 0, none⟩) 1 1
  | 10 => v'
  | _ => undef

def apW (w0 w1 w5 w6 : World) (L : Nat → Bool) : World := if L 11 = true then w6 else if L 10 = true then w5 else if L 9 = true then w1 else w0

/-- What holds when L has been carried out. -/
structure Ap (Bw Bx K N : Nat) (a b : Int) (vg v' : Value) (w0 w1 w5 w6 : World) (L : Nat → Bool) (act : Act) (w : World) : Prop where
  sz : act.tmps.size = 89
  b8 : act.eval (.tmp 8) = .pointer (some ⟨Bw, 0, none⟩)
  b12 : act.eval (.tmp 12) = .pointer (some ⟨Bx, 0, none⟩)
  vals : ∀ i, i < 11 → L i = true → act.eval (.tmp (69 + i)) = apV Bx K N a b vg v' i
  all : L 11 = true → ∀ i, i < 11 → L i = true
  ten : L 10 = true → L 9 = true ∧ L 6 = true
  wd : w = apW w0 w1 w5 w6 L

section
variable {Bw Bx K N : Nat} {a b : Int} {vg v' : Value} {w0 w1 w5 w6 : World} {L : Nat → Bool} {act : Act} {w : World}
theorem Ap.next (h : Ap Bw Bx K N a b vg v' w0 w1 w5 w6 L act w) {i : Nat} (hi : i < 11) (hL : L i = false) (h10 : i = 10 → L 9 = true ∧ L 6 = true) {w' : World} (hw : w' = apW w0 w1 w5 w6 fun j => if j = i then true else L j) :
    Ap Bw Bx K N a b vg v' w0 w1 w5 w6 (fun j => if j = i then true else L j) (act.put (some (69 + i)) (apV Bx K N a b vg v' i)) w' where
  sz := by simp [Act.put, h.sz]
  b8 := by rw [Act.eval_put_ne _ _ _ _ (by omega)]; exact h.b8
  b12 := by rw [Act.eval_put_ne _ _ _ _ (by omega)]; exact h.b12
  vals j hj hLj := by
    by_cases e : j = i
    · subst e
      exact Act.eval_put_same _ _ _ (by rw [h.sz]; omega)
    · simp only [if_neg e] at hLj
      rw [Act.eval_put_ne _ _ _ _ (by omega)]
      exact h.vals j hj hLj
  all h11 j hj := by
    simp only [show (11 : Nat) ≠ i by omega, if_false] at h11
    rw [h.all h11 i hi] at hL
    cases hL
  ten h' := by
    by_cases e : i = 10
    · subst e
      exact ⟨by simp [(h10 rfl).1], by simp [(h10 rfl).2]⟩
    · simp only [show (10 : Nat) ≠ i by omega, if_false] at h'
      have := h.ten h'
      exact ⟨by simp [this.1], by simp [this.2]⟩
  wd := hw
theorem Ap.not_last (h : Ap Bw Bx K N a b vg v' w0 w1 w5 w6 L act w) {i : Nat} (hi : i < 11) (hL : L i = false) : L 11 = false := by
  cases e : L 11 with
  | false => rfl
  | true => rw [h.all e i hi] at hL; cases hL
theorem apW_read {i : Nat} (h : i ≠ 9 ∧ i ≠ 10 ∧ i ≠ 11) : apW w0 w1 w5 w6 (fun j => if j = i then true else L j) = apW w0 w1 w5 w6 L := by
  simp [apW, show (11 : Nat) ≠ i by omega, show (10 : Nat) ≠ i by omega, show (9 : Nat) ≠ i by omega]
theorem Ap.cell (h : Ap Bw Bx K N a b vg v' w0 w1 w5 w6 L act w) (h11 : L 11 = false) {p : Addr} {u : Value} (c0 : w0.cell? p = some u) (c1 : w1.cell? p = some u) (c5 : w5.cell? p = some u) : w.cell? p = some u := by
  rw [h.wd]
  unfold apW
  rw [h11]
  simp only [Bool.false_eq_true, if_false]
  split
  · exact c5
  · split
    · exact c1
    · exact c0
end

/-- The operations, as they stand. -/
def apShape : List (Option Nat × Go.Op × Option (Nat × Bool) × Nat × List Nat) :=
  [(some 69, .load 127 (.tmp 8), none, 127, []),
   (some 70, .fieldAddr 67 (.tmp 12) 0, none, 0, []),
   (some 71, .load 3 (.tmp 70), none, 3, [1]),
   (some 72, .load 127 (.tmp 8), none, 127, []),
   (some 73, .fieldAddr 67 (.tmp 12) 0, none, 0, []),
   (some 74, .load 3 (.tmp 73), none, 3, [4]),
   (some 75, .lookup 127 (.tmp 72) (.tmp 74) false, none, 28, [3, 5]),
   (some 76, .fieldAddr 67 (.tmp 12) 1, none, 0, []),
   (some 77, .load 3 (.tmp 76), none, 3, [7]),
   (some 78, .buildSlice 28 1 #[(0, .tmp 77)], none, 28, [8]),
   (some 79, .call { callee := .builtin .append, args := #[.tmp 75, .tmp 78], argTypes := #[28, 28] }, none, 28, [6, 9]),
   (none, .mapUpdate 127 (.tmp 69) (.tmp 71) (.tmp 79), none, 0, [0, 2, 10, 10, 0, 1, 2, 3, 4, 5, 6, 7, 8, 9, 10])]

theorem shape_at {ops : Array Oper} (hs : ops.toList.map (fun o => (o.dst, o.op, o.guard, o.type, o.after.toList.map (·.on))) = apShape) {i : Nat} {o : Oper} (ho : ops[i]? = some o) : apShape[i]? = some (o.dst, o.op, o.guard, o.type, o.after.toList.map (·.on)) := by
  rw [← hs]
  simp [ho]

set_option maxRecDepth 100000 in
set_option maxHeartbeats 2000000 in
theorem region_append {F : Fence} {n id : Nat} {ops : Array Oper} {Q : Exit → Act → World → Prop} {act : Act} {W : World} (hF : ∀ f, F.fn f) (Bw Bx K : Nat) (a b : Int) (vg v' : Value) (w1 w5 w6 : World)
    (hs : ops.toList.map (fun o => (o.dst, o.op, o.guard, o.type, o.after.toList.map (·.on))) = apShape) (hbind : ops.toList.all (fun o => o.after.toList.all fun e => Region.binds .any e) = true)
    (hsz : act.tmps.size = 89) (h8 : act.eval (.tmp 8) = .pointer (some ⟨Bw, 0, none⟩)) (h12 : act.eval (.tmp 12) = .pointer (some ⟨Bx, 0, none⟩))
    (hw1 : w1 = W.drew.alloc (.cells #[.int .i64 b] 3))
    (c0 : W.cell? ⟨Bw, 0, none⟩ = some (.map (some K))) (c1 : W.cell? ⟨Bx, 0, none⟩ = some (.int .i64 a)) (c2 : W.cell? ⟨Bx, 1, none⟩ = some (.int .i64 b))
    (d0 : w5.cell? ⟨Bw, 0, none⟩ = some (.map (some K))) (d1 : w5.cell? ⟨Bx, 0, none⟩ = some (.int .i64 a)) (d2 : w5.cell? ⟨Bx, 1, none⟩ = some (.int .i64 b))
    (hK : K < W.heap.size) (hlook : ∀ W' : World, W'.heap[K]? = W.heap[K]? → (Instr.lookup 127 (.map (some K)) (.int .i64 a) false).run Tryd.prog W' = .ok vg W')
    (happ : (Builtin.append_ #[28, 28] 28 #[vg, .slice (some ⟨W.heap.size, 0, none⟩) 1 1]).run Tryd.prog w1 = .ok v' w5)
    (hupd : (Instr.mapUpdate 127 (.map (some K)) (.int .i64 a) v').run Tryd.prog w5 = .ok () w6)
    (hend : ∀ a', Q .normal a' w6) : (Code.region id ops true).wpIn F n Tryd.prog Q act W := by
  refine wpIn_region_inv (by kernel_rfl) (Ap Bw Bx K W.heap.size a b vg v' W.drew w1 w5 w6) (fun i o ho e he => ?dep) (fun L act w i o hI ho hL hdep => ?step) (fun L act w hI hall => ?fin) ⟨hsz, h8, h12, fun i _ h => (by cases h), fun h => (by cases h), fun h => (by cases h), rfl⟩
  case fin =>
    have h11 : L 11 = true := hall 11 (by have := congrArg List.length hs; simp [apShape] at this; omega)
    rw [hI.wd]
    unfold apW
    rw [h11]
    exact hend act
  case dep =>
    have h1 := shape_at hs ho
    have h2 : e.on ∈ o.after.toList.map (·.on) := List.mem_map.2 ⟨e, by simpa using he, rfl⟩
    have hi : i < 12 := by have := (List.getElem?_eq_some_iff.1 h1).1; simpa [apShape] using this
    generalize o.after.toList.map (·.on) = l at h1 h2
    rcases (by omega : i = 0 ∨ i = 1 ∨ i = 2 ∨ i = 3 ∨ i = 4 ∨ i = 5 ∨ i = 6 ∨ i = 7 ∨ i = 8 ∨ i = 9 ∨ i = 10 ∨ i = 11) with rfl | rfl | rfl | rfl | rfl | rfl | rfl | rfl | rfl | rfl | rfl | rfl
    all_goals
      simp only [apShape, List.getElem?_cons_succ, List.getElem?_cons_zero, Option.some.injEq, Prod.mk.injEq] at h1
      obtain ⟨_, _, _, _, rfl⟩ := h1
      simp at h2
      try omega
  case step =>
    have h1 := shape_at hs ho
    have hi : i < 12 := by have := (List.getElem?_eq_some_iff.1 h1).1; simpa [apShape] using this
    have hd : ∀ d, d ∈ o.after.toList.map (·.on) → L d = true := fun d hd' => by
      obtain ⟨e, he, rfl⟩ := List.mem_map.1 hd'
      refine hdep e (by simpa using he) ?_
      have h3 := List.all_eq_true.1 hbind o (by simpa using List.mem_of_getElem? (l := ops.toList) (i := i) (by simpa using ho))
      exact List.all_eq_true.1 h3 e he
    have e1 : w1.cell? ⟨Bw, 0, none⟩ = some (.map (some K)) ∧ w1.cell? ⟨Bx, 0, none⟩ = some (.int .i64 a) ∧ w1.cell? ⟨Bx, 1, none⟩ = some (.int .i64 b) := by
      rw [hw1]
      exact ⟨cellN_alloc _ c0, cellN_alloc _ c1, cellN_alloc _ c2⟩
    have hab : ∀ (w : World) f, o.about Tryd.prog w act.eval = some f → F.fn f := fun _ f _ => hF f
    clear hs hbind hdep
    rcases (by omega : i = 0 ∨ i = 1 ∨ i = 2 ∨ i = 3 ∨ i = 4 ∨ i = 5 ∨ i = 6 ∨ i = 7 ∨ i = 8 ∨ i = 9 ∨ i = 10 ∨ i = 11) with rfl | rfl | rfl | rfl | rfl | rfl | rfl | rfl | rfl | rfl | rfl | rfl
    all_goals
      simp only [apShape, List.getElem?_cons_succ, List.getElem?_cons_zero, Option.some.injEq, Prod.mk.injEq] at h1
      obtain ⟨hdst, hop, hg, hty, haf⟩ := h1
      rw [← haf] at hd
      have hnd : ∀ c, o.op ≠ .defer c := fun c e => by rw [← hop] at e; cases e
    · -- the map, for the store
      have hc := hI.cell (hI.not_last (by omega) hL) (p := ⟨Bw, 0, none⟩) c0 e1.1 d0
      refine opIn_value (v := .map (some K)) (w' := w) ho hg.symm hnd (hab _) ?_ (hdst ▸ hI.next (i := 0) (by omega) hL (by omega) ?_)
      · simp only [execOp, ← hop, hI.b8]
        simp [go_sem, hc]
      · rw [apW_read (by omega)]
        exact hI.wd
    · refine opIn_value (v := .pointer (some ⟨Bx, 0, none⟩)) (w' := w) ho hg.symm hnd (hab _) ?_ (hdst ▸ hI.next (i := 1) (by omega) hL (by omega) ?_)
      · simp only [execOp, ← hop, hI.b12]
        simp [go_sem]
      · rw [apW_read (by omega)]
        exact hI.wd
    · have hc := hI.cell (hI.not_last (by omega) hL) (p := ⟨Bx, 0, none⟩) c1 e1.2.1 d1
      have hv := hI.vals 1 (by omega) (hd 1 (by simp))
      simp only [Nat.reduceAdd, apV] at hv
      refine opIn_value (v := .int .i64 a) (w' := w) ho hg.symm hnd (hab _) ?_ (hdst ▸ hI.next (i := 2) (by omega) hL (by omega) ?_)
      · simp only [execOp, ← hop, hv]
        simp [go_sem, hc]
      · rw [apW_read (by omega)]
        exact hI.wd
    · have hc := hI.cell (hI.not_last (by omega) hL) (p := ⟨Bw, 0, none⟩) c0 e1.1 d0
      refine opIn_value (v := .map (some K)) (w' := w) ho hg.symm hnd (hab _) ?_ (hdst ▸ hI.next (i := 3) (by omega) hL (by omega) ?_)
      · simp only [execOp, ← hop, hI.b8]
        simp [go_sem, hc]
      · rw [apW_read (by omega)]
        exact hI.wd
    · refine opIn_value (v := .pointer (some ⟨Bx, 0, none⟩)) (w' := w) ho hg.symm hnd (hab _) ?_ (hdst ▸ hI.next (i := 4) (by omega) hL (by omega) ?_)
      · simp only [execOp, ← hop, hI.b12]
        simp [go_sem]
      · rw [apW_read (by omega)]
        exact hI.wd
    · have hc := hI.cell (hI.not_last (by omega) hL) (p := ⟨Bx, 0, none⟩) c1 e1.2.1 d1
      have hv := hI.vals 4 (by omega) (hd 4 (by simp))
      simp only [Nat.reduceAdd, apV] at hv
      refine opIn_value (v := .int .i64 a) (w' := w) ho hg.symm hnd (hab _) ?_ (hdst ▸ hI.next (i := 5) (by omega) hL (by omega) ?_)
      · simp only [execOp, ← hop, hv]
        simp [go_sem, hc]
      · rw [apW_read (by omega)]
        exact hI.wd
    · -- the look-up
      have hv3 := hI.vals 3 (by omega) (hd 3 (by simp))
      have hv5 := hI.vals 5 (by omega) (hd 5 (by simp))
      simp only [Nat.reduceAdd, apV] at hv3 hv5
      have h10 : L 10 = false := by
        cases e : L 10 with
        | false => rfl
        | true => rw [(hI.ten e).2] at hL; cases hL
      have h11 := hI.not_last (by omega) hL
      have hh : w.heap[K]? = W.heap[K]? := by
        rw [hI.wd]
        unfold apW
        rw [h10, h11]
        simp only [Bool.false_eq_true, if_false]
        split
        · rw [hw1]
          exact heap_alloc_old _ _ (by simpa using hK)
        · rfl
      have hl := hlook w hh
      refine opIn_value (v := vg) (w' := w) ho hg.symm hnd (hab _) ?_ (hdst ▸ hI.next (i := 6) (by omega) hL (by omega) ?_)
      · simp only [execOp, ← hop, hv3, hv5]
        simp [go_sem, hl]
      · rw [apW_read (by omega)]
        exact hI.wd
    · refine opIn_value (v := .pointer (some ⟨Bx, 1, none⟩)) (w' := w) ho hg.symm hnd (hab _) ?_ (hdst ▸ hI.next (i := 7) (by omega) hL (by omega) ?_)
      · simp only [execOp, ← hop, hI.b12]
        simp [go_sem]
      · rw [apW_read (by omega)]
        exact hI.wd
    · have hc := hI.cell (hI.not_last (by omega) hL) (p := ⟨Bx, 1, none⟩) c2 e1.2.2 d2
      have hv := hI.vals 7 (by omega) (hd 7 (by simp))
      simp only [Nat.reduceAdd, apV] at hv
      refine opIn_value (v := .int .i64 b) (w' := w) ho hg.symm hnd (hab _) ?_ (hdst ▸ hI.next (i := 8) (by omega) hL (by omega) ?_)
      · simp only [execOp, ← hop, hv]
        simp [go_sem, hc]
      · rw [apW_read (by omega)]
        exact hI.wd
    · -- the one that is appended
      have hv8 := hI.vals 8 (by omega) (hd 8 (by simp))
      simp only [Nat.reduceAdd, apV] at hv8
      have h10 : L 10 = false := by
        cases e : L 10 with
        | false => rfl
        | true => rw [(hI.ten e).1] at hL; cases hL
      have h11 := hI.not_last (by omega) hL
      have hw : w = W.drew := by
        rw [hI.wd]
        unfold apW
        rw [h10, h11, hL]
        rfl
      subst hw
      refine opIn_value (v := .slice (some ⟨W.heap.size, 0, none⟩) 1 1) (w' := w1) ho hg.symm hnd (hab _) ?_ (hdst ▸ hI.next (i := 9) (by omega) hL (by omega) ?_)
      · simp only [execOp, ← hop, List.map_toArray, List.map_cons, List.map_nil, hv8]
        simp [go_sem, hw1]
      · simp [apW, h10, h11]
    · -- the append
      have hv6 := hI.vals 6 (by omega) (hd 6 (by simp))
      have hv9 := hI.vals 9 (by omega) (hd 9 (by simp))
      simp only [Nat.reduceAdd, apV] at hv6 hv9
      have h9 := hd 9 (by simp)
      have h6 := hd 6 (by simp)
      have h11 := hI.not_last (by omega) hL
      have hw : w = w1 := by
        rw [hI.wd]
        unfold apW
        rw [hL, h11, h9]
        rfl
      rw [hw]
      refine opIn_value (v := v') (w' := w5) ho hg.symm hnd (hab _) ?_ (hdst ▸ hI.next (i := 10) (by omega) hL (fun _ => ⟨h9, h6⟩) ?_)
      · unfold execOp
        simp only [← hop, ← hty, resolve, invoke, builtin, Sem.run_bind, Sem.run_pure, Result.andThen_ok, List.map_toArray, List.map_cons, List.map_nil, hv6, hv9, happ]
      · simp [apW, h11]
    · -- the store
      have hall : ∀ j, j < 11 → L j = true := fun j hj => hd j (by
        rcases (by omega : j = 0 ∨ j = 1 ∨ j = 2 ∨ j = 3 ∨ j = 4 ∨ j = 5 ∨ j = 6 ∨ j = 7 ∨ j = 8 ∨ j = 9 ∨ j = 10) with rfl | rfl | rfl | rfl | rfl | rfl | rfl | rfl | rfl | rfl | rfl <;> simp)
      have hv0 := hI.vals 0 (by omega) (hall 0 (by omega))
      have hv2 := hI.vals 2 (by omega) (hall 2 (by omega))
      have hv10 := hI.vals 10 (by omega) (hall 10 (by omega))
      simp only [Nat.reduceAdd, apV] at hv0 hv2 hv10
      have hw : w = w5 := by
        rw [hI.wd]
        unfold apW
        rw [hL, hall 10 (by omega)]
        rfl
      rw [hw]
      refine opIn_skip (w' := w6) ho hg.symm hnd (hab _) ?_ ?_
      · simp only [execOp, ← hop, hv0, hv2, hv10]
        simp [go_sem, hupd]
      · rw [← hdst]
        refine ⟨hI.sz, hI.b8, hI.b12, fun j hj hLj => ?_, fun _ j hj => ?_, fun _ => ?_, ?_⟩
        · exact hI.vals j hj (hall j hj)
        · simp [hall j hj]
        · simp [hall 9 (by omega), hall 6 (by omega)]
        · simp [apW]

end Go.Proofs.YtkmoihkpaccbdaaDoor
