/-
  append of any slice of one's argument, none or not, onto a row of one's own.
-/
import Derived.Test.YtndcnomgaoadeaaStep
import Derived.Test.YtndcnomgaoadeaaOwnT
namespace Go.Proofs.Ytndcnomgaoadeaa
open Go.RowKit Go.Maps

section
variable {P : Program} (w : World)

theorem run_append_noneC (t ty e : TypeId) (i : TypeInfo) (ht : P.underlying t = some (.slice e)) (hi : P.info? e = some i) (base size : Nat) (c : Nat)
    (v : Value) (n : Nat) (xs : List Value) (hown : w.ownsRow base e size v n xs) :
    (Builtin.append_ #[t, t] ty #[v, .slice none 0 c]).run P w = .ok v w := by
  rcases hown.2 with ⟨rfl, rfl⟩ | ⟨g, cap, cur, rfl, hbg, hg, hnc, hcm, hcs, htake⟩
  · simp [Builtin.append_, run_underlying ht, sizeOf, typeInfo, hi, Builtin.lenOf, Builtin.firstCells]
  · simp [Builtin.append_, run_underlying ht, sizeOf, typeInfo, hi, Builtin.lenOf, Builtin.firstCells, storeCells, hnc]

/-- What lies where a slice points, none or not. -/
def SrcAt (A : Option Addr) (m : Nat) (ys : List Value) : Prop := (A = none → m = 0) ∧ ∀ ad, A = some ad → ∀ j u, ys[j]? = some u → w.cell? (ad.add j) = some u

theorem run_append_any (base : Nat) (t ty e : TypeId) (i : TypeInfo) (z : Value) (size bytes : Nat) (ht : P.underlying t = some (.slice e)) (hi : P.info? e = some i) (hz : i.zero = some z)
    (hsize : i.size = size) (hby : i.bytes = bytes) (hzs : z.cells.size = size) (hsz : 0 < size)
    (v : Value) (n : Nat) (xs : List Value) (hown : w.ownsRow base e size v n xs)
    (A : Option Addr) (m c : Nat) (ys : List Value) (hl : ys.length = m * size) (hsrc : SrcAt w A m ys) (h1 : ∀ u ∈ ys, u.oneCell' = true)
    (h63 : n + m ≤ maxLen) (hbytes : (n + m) * bytes ≤ 140737488355328) (hbase : base ≤ w.heap.size) :
    ∃ A' cap w', (Builtin.append_ #[t, t] ty #[v, .slice A m c]).run P w = .ok (.slice A' (n + m) cap) w' ∧ w'.ownsRow base e size (.slice A' (n + m) cap) (n + m) (xs ++ ys) ∧ w.grownBy w' v.ownBlock ∧ (v ≠ .slice none 0 0 → Value.slice A' (n + m) cap ≠ .slice none 0 0) := by
  cases A with
  | none =>
    have hm := hsrc.1 rfl
    subst hm
    have hy : ys = [] := List.eq_nil_of_length_eq_zero (by simpa using hl)
    subst hy
    have hr := run_append_noneC (P := P) w t ty e i ht hi base size c v n xs hown
    obtain ⟨A', c', rfl⟩ := row_shapeN hown
    exact ⟨A', c', w, hr, by simpa using hown, ⟨rfl, rfl, rfl, Nat.le_refl _, fun _ _ _ => rfl⟩, fun h => h⟩
  | some ad =>
    obtain ⟨v', w', hr, h2, h3, h4, _⟩ := run_append_own_at (P := P) w base t ty e i z size bytes ht hi hz hsize hby hzs hsz v n xs hown ad m c ys hl (hsrc.2 ad rfl) h1 h63 hbytes hbase
    obtain ⟨A', c', rfl⟩ := row_shapeN h2
    exact ⟨A', c', w', hr, h2, h3, fun hv he => hv (h4.1 he).1⟩

theorem wpList_append_any {ops : Array Oper} {rest : List Oper} {o : Oper} {a : Act} {Q : Exit → Act → World → Prop} (hgd : o.guard = none) (s x : Operand) (t : TypeId)
    (ho : o.op = .call { callee := .builtin .append, args := #[s, x], argTypes := #[t, t] })
    (base : Nat) (e : TypeId) (i : TypeInfo) (z : Value) (size bytes : Nat) (ht : P.underlying t = some (.slice e)) (hi : P.info? e = some i) (hz : i.zero = some z)
    (hsize : i.size = size) (hby : i.bytes = bytes) (hzs : z.cells.size = size) (hsz : 0 < size)
    (v : Value) (n : Nat) (xs : List Value) (hs : a.eval s = v) (hown : w.ownsRow base e size v n xs)
    (A : Option Addr) (m c : Nat) (ys : List Value) (hx : a.eval x = .slice A m c) (hl : ys.length = m * size) (hsrc : SrcAt w A m ys) (h1 : ∀ u ∈ ys, u.oneCell' = true)
    (h63 : n + m ≤ maxLen) (hbytes : (n + m) * bytes ≤ 140737488355328) (hbase : base ≤ w.heap.size)
    (h : ∀ A' cap w', w'.ownsRow base e size (.slice A' (n + m) cap) (n + m) (xs ++ ys) → w.grownBy w' v.ownBlock → (v ≠ .slice none 0 0 → Value.slice A' (n + m) cap ≠ .slice none 0 0) → wpList P ops Q rest (a.put o.dst (.slice A' (n + m) cap)) w') :
    wpList P ops Q (o :: rest) a w := by
  refine wpList_plain hgd fun K hK => ?_
  obtain ⟨A', cap, w', hr, h2, h3, h4⟩ := run_append_any (P := P) w base t o.type e i z size bytes ht hi hz hsize hby hzs hsz v n xs hown A m c ys hl hsrc h1 h63 hbytes hbase
  unfold Oper.wp execOp
  simp only [ho, resolve, invoke, builtin, Sem.run_bind, Sem.run_pure, Result.andThen_ok, List.map_toArray, List.map_cons, List.map_nil, hs, hx, hr]
  exact hK _ _ (h A' cap w' h2 h3 h4)
end

theorem ints_src {w : World} {L B : Nat} {A : Option Addr} {l : List Int} (h : IntsIn w L B A l) : SrcAt w A l.length (l.map vint) := by
  refine ⟨fun e => ?_, fun ad e j u hu => ?_⟩
  · rcases Nat.eq_zero_or_pos l.length with hz | hp
    · exact hz
    · obtain ⟨b, o, e', _⟩ := h hp
      rw [e] at e'; cases e'
  · have hj : j < l.length := by
      have := (List.getElem?_eq_some_iff.1 hu).1
      simpa using this
    obtain ⟨b, o, e', _, _, hc⟩ := h (by omega)
    rw [e] at e'
    cases e'
    rw [Addr.add_lit, hc j hj, ← hu]
    simp [vint, hj]
theorem bytes_src {w : World} {L B : Nat} {A : Option Addr} {l : List UInt8} (h : BytesIn w L B A l) : SrcAt w A l.length (vbytes l) := by
  refine ⟨fun e => ?_, fun ad e j u hu => ?_⟩
  · rcases Nat.eq_zero_or_pos l.length with hz | hp
    · exact hz
    · obtain ⟨b, o, e', _⟩ := h hp
      rw [e] at e'; cases e'
  · have hj : j < l.length := by
      have := (List.getElem?_eq_some_iff.1 hu).1
      simpa [vbytes] using this
    obtain ⟨b, o, e', _, _, hc⟩ := h (by omega)
    rw [e] at e'
    cases e'
    rw [Addr.add_lit, hc j hj, ← hu]
    simp [vbytes, hj]
theorem nameAt_own {w : World} {base : Nat} {A : Option Addr} {c : Nat} {l : List UInt8} (h : w.ownsRow base 5 1 (.slice A l.length c) l.length (vbytes l)) (hne : Value.slice A l.length c ≠ .slice none 0 0) : ∃ g, A = some ⟨g, 0, none⟩ ∧ base ≤ g ∧ NameAt w g l := by
  obtain ⟨_, hh | ⟨g, cap, cur, hv, hg, hb, _, _, _, htk⟩⟩ := h
  · exact absurd hh.1 hne
  · injection hv with h1 _ _
    refine ⟨g, h1, hg, cur, (0, 0), hb, .inl rfl, fun j hj => ?_⟩
    have hu : (vbytes l)[j]? = some (.int .u8 (l[j].toNat : Int)) := by simp [vbytes, hj]
    rw [← htk, List.getElem?_take, if_pos (by omega)] at hu
    simpa using hu

end Go.Proofs.Ytndcnomgaoadeaa
