import Derived.Test.YtehedhkadjidpabMg1
import Derived.Test.YtehedhkadjidpabBo
import Derived.Deep.DeepCutAuto
import Derived.Deep.RegionHeld3
namespace Go.Proofs.Ytehedhkadjidpab
open Go.RowKit
theorem Bo.ofB4 {w : World} {g : Nat} {a b c d : Value} (h : B4 w g a b c d) : Bo w g [a, b, c, d] :=
  ⟨fun i u hu => by
    rcases i with _ | _ | _ | _ | i <;> simp at hu
    · rw [← hu]; exact h.1
    · rw [← hu]; exact h.2.1
    · rw [← hu]; exact h.2.2.1
    · rw [← hu]; exact h.2.2.2.1, h.2.2.2.2.2⟩
theorem made4 {W W' : World} {a b c d : Value} {T : Nat} (hb : Below (W.alloc (.cells #[a, b, c, d] T)).heap.size (W.alloc (.cells #[a, b, c, d] T)) W') : B4 W' W.heap.size a b c d := (B4.made W a b c d T).keep hb
theorem made4d {W W' : World} {a b c d : Value} {T : Nat} (hb : Below (W.alloc (.cells #[a, b, c, d] T)).drew.heap.size (W.alloc (.cells #[a, b, c, d] T)).drew W') : B4 W' W.heap.size a b c d := ((B4.made W a b c d T).keep (Below.refl _ _).drew).keep hb
def Mid4 (u wx : World) (G : Nat) (a b c d : Value) : Prop := Below u.heap.size u wx ∧ B4 wx G a b c d ∧ u.heap.size ≤ G
theorem mid4A {u wC : World} (a b c d : Value) (T : Nat) (hb : Below u.heap.size u wC) : Mid4 u (wC.alloc (.cells #[a, b, c, d] T)) wC.heap.size a b c d :=
  ⟨hb.alloc hb.size _, B4.made _ _ _ _ _ _, hb.size⟩
theorem mid4B {u wC : World} {G : Nat} {z0 z1 z2 z3 : Value} (a b c d : Value) (hb : Below u.heap.size u wC) (hN : B4 wC G z0 z1 z2 z3) (hG : u.heap.size ≤ G) :
    Mid4 u ((((wC.setCell ⟨G, 0, none⟩ a).setCell ⟨G, 1, none⟩ b).setCell ⟨G, 2, none⟩ c).setCell ⟨G, 3, none⟩ d) G a b c d :=
  ⟨below_set4 hb hG _ _ _ _, hN.set _ _ _ _, hG⟩
theorem mgS_x (c s l m c2 s2 l2 m2 : Int) (w : World) : Calls Try.prog 35 #[.agg #[.int .i64 c, .int .i64 s, .int .i64 l, .int .i64 m], .agg #[.int .i64 c2, .int .i64 s2, .int .i64 l2, .int .i64 m2]] w
    fun e w' => e = .returned (.tuple #[.agg #[.int .i64 (mgC c s l m c2 s2 l2 m2), .int .i64 (mgS c s l m c2 s2 l2 m2), .int .i64 (mgL c s l m c2 s2 l2 m2), .int .i64 (mgM c s l m c2 s2 l2 m2)], .bool (mgK c s l m c2 s2 l2 m2)]) ∧ Below w.heap.size w w' := mgS_any c s l m c2 s2 l2 m2 w
theorem mgI_x (c s l m c2 s2 l2 m2 : Int) (w : World) : Calls Try.prog 34 #[.agg #[.int .i64 c, .int .i64 s, .int .i64 l, .int .i64 m], .agg #[.int .i64 c2, .int .i64 s2, .int .i64 l2, .int .i64 m2]] w
    fun e w' => e = .returned (.tuple #[.agg #[.int .i64 (mgC c s l m c2 s2 l2 m2), .int .i64 (mgS c s l m c2 s2 l2 m2), .int .i64 (mgL c s l m c2 s2 l2 m2), .int .i64 (mgM c s l m c2 s2 l2 m2)], .bool (mgK c s l m c2 s2 l2 m2)]) ∧ Below w.heap.size w w' := mgI_any c s l m c2 s2 l2 m2 w
end Go.Proofs.Ytehedhkadjidpab
