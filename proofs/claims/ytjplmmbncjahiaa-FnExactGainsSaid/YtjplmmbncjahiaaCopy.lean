/-
  The program's copy of a term.
-/
import Derived.Test.YtjplmmbncjahiaaFresh2
import Derived.Test.YtjplmmbncjahiaaPick
namespace Go.Proofs.Ytjplmmbncjahiaa
open Go.RowKit Go.Maps

theorem vbytes_length (l : List UInt8) : (vbytes l).length = l.length := by simp [vbytes]
theorem vbytes_one (l : List UInt8) : ∀ u ∈ vbytes l, u.oneCell' = true := by
  intro u hu
  simp only [vbytes, List.mem_map] at hu
  obtain ⟨b, _, rfl⟩ := hu
  rfl
theorem vbytes_at {w : World} {L B g : Nat} {l : List UInt8} (h : BytesIn w L B (some ⟨g, 0, none⟩) l) : ∀ j u, (vbytes l)[j]? = some u → w.cell? ((⟨g, 0, none⟩ : Addr).add j) = some u := by
  intro j u hu
  have hj : j < l.length := by
    have := (List.getElem?_eq_some_iff.1 hu).1
    rwa [vbytes_length] at this
  obtain ⟨b, o, e, _, _, hc⟩ := h (by omega)
  simp only [Option.some.injEq, Addr.mk.injEq] at e
  obtain ⟨rfl, rfl, _⟩ := e
  have h2 : (vbytes l)[j]? = some (.int .u8 (l[j].toNat : Int)) := by simp [vbytes, hj]
  rw [h2] at hu
  cases hu
  rw [Addr.add_lit]
  exact hc j hj

/-- A new term is handed back. -/
def NewTm (t : Tm) (w : World) (e : Ending) (w' : World) : Prop :=
  ∃ A c, e = .returned (.agg #[.int .i64 t.kind, .int .i64 t.a, .int .i64 t.b, .slice A t.text.length c]) ∧ BytesFr w' w.heap.size w'.heap.size A t.text ∧ Below w.heap.size w w'

end Go.Proofs.Ytjplmmbncjahiaa
