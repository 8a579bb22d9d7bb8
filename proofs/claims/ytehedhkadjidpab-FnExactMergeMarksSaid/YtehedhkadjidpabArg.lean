import Derived.Test.YtehedhkadjidpabSlk2
import Derived.Deep.Slices
import Derived.Deep.Fields
import Derived.ChangeSame
namespace Go.Proofs.Ytehedhkadjidpab
open Go.RowKit Go.ChangeShapes Go.WideShapes Go.Deep
/-- What is known of a slice that came in, whatever its length. -/
def RowA {α : Type} (enc : α → List Value) (k : Nat) (w : World) (A : Option Addr) (l : List α) : Prop :=
  0 < l.length → ∃ b off, A = some ⟨b, off, none⟩ ∧ b < w.heap.size ∧ ∀ i x, l[i]? = some x → ∀ j u, (enc x)[j]? = some u → w.cell? ⟨b, off + i * k + j, none⟩ = some u
/-- The integer that lies at q cells behind a. -/
def cellI (w : World) (a : Addr) (q : Nat) : Int := match w.cell? (a.add q) with | some (.int _ u) => u | _ => 0
section
variable {H : Type} {enc : TypeId × Value → H} {P : Program} {w : World} {base : Nat} {spare : Nat → Bool} {held : Bool}
/-- A slice of structs whose fields are all of type int: every cell of its elements is an integer. -/
theorem int_cells {t e ti : TypeId} {fs : Array Field} {fuel : Nat} {cs : List Value} {x : DataW H × List MemPlace} (ht : P.underlying t = some (.slice e)) (he : P.underlying e = some (.struct fs))
    (hti : P.underlying ti = some (.int .i64)) (hall : fs.all (fun f => f.type == ti) = true)
    (hone : oneCellFields P fs = true) (hC : P.cellsOf e = fs.size) (h : DataW.trod enc P w base spare held fuel t cs = some x) :
    cs = [.slice none 0 0] ∨ ∃ (a : Addr) (len cap : Nat), cs = [.slice (some a) len cap] ∧ len ≤ cap ∧ cap ≤ maxLen ∧
      ∀ i, i < len → ∀ j, j < fs.size → w.cell? (a.add (i * fs.size + j)) = some (.int .i64 (cellI w a (i * fs.size + j))) := by
  rcases open_slice ht h with ⟨h0, _⟩ | ⟨a, len, cap, m, n, D, Pl, hcs, _, hl, hm, hmm, _, hi⟩
  · exact .inl h0
  · refine .inr ⟨a, len, cap, hcs, hl, hm, fun i hil j hjl => ?_⟩
    have him : i < m := by rw [hmm]; split <;> omega
    obtain ⟨cs', hc, ht'⟩ := hi i him
    rw [hC] at hc
    obtain ⟨ys, n', hn', hy, hlen, hyl, hf⟩ := DataW.trod_struct he ht'
    obtain ⟨_, hcl, hat⟩ := World.cells?_some hc
    have hj : fs[j]? = some fs[j] := Array.getElem?_eq_getElem hjl
    obtain ⟨ho, hk⟩ := hone_of hone j fs[j] hj
    have hcell := hat j hjl
    have hv : cs'[j]? = some (cs'[j]'(by omega)) := List.getElem?_eq_getElem (by omega)
    have h1 := hf j fs[j] hj
    rw [ho, hk] at h1
    have hone' : (cs'.drop j).take 1 = [cs'[j]'(by omega)] := by
      rw [List.drop_eq_getElem_cons (by omega)]
      rfl
    have hys : ys[j]? = some (ys[j]'(by omega)) := List.getElem?_eq_getElem (by omega)
    have hty : fs[j].type = ti := by
      have h2 := (Array.all_eq_true.1 hall) j hjl
      simpa using h2
    rw [hone', hty, hys] at h1
    obtain ⟨u, hu, _, _⟩ := DataW.trod_int hti h1
    have hu' : cs'[j]'(by omega) = .int .i64 u := by injection hu
    have hc2 : w.cell? (a.add (i * fs.size + j)) = some (.int .i64 u) := by rw [← Go.Deep.add_add, hcell, hv, hu']
    rw [hc2]
    unfold cellI
    rw [hc2]
end
theorem spot_none {w : World} {a : Addr} {v : Value} (h : w.cell? (a.add 0) = some v) : ∃ b off, a = ⟨b, off, none⟩ ∧ b < w.heap.size ∧ ∀ q, a.add q = ⟨b, off + q, none⟩ := by
  obtain ⟨b, off, spot⟩ := a
  have hs : spot = none := by simpa [Addr.add] using World.cell?_spot h
  subst hs
  have e : ∀ i, (⟨b, off, none⟩ : Addr).add i = ⟨b, off + i, none⟩ := fun i => by
    unfold Addr.add; split
    · rename_i h; subst h; rfl
    · rfl
  refine ⟨b, off, rfl, ?_, e⟩
  have := cell_lt h
  rw [e] at this
  exact this
end Go.Proofs.Ytehedhkadjidpab
