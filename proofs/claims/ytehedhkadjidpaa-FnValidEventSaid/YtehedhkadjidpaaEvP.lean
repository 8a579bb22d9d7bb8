import Derived.Test.YtehedhkadjidpaaEvB
import Derived.Test.YtehedhkadjidpaaDrFe
import Derived.Test.YtehedhkadjidpaaMgS
import Derived.Test.YtehedhkadjidpaaEqEv
import Derived.Test.YtehedhkadjidpaaBo
namespace Go.Proofs.Ytehedhkadjidpaa
open Go.RowKit
theorem row_one (w : World) (x : EventR) : Row EventR.enc 3 (w.alloc (.cells #[.int .i64 x.a0, .int .i64 x.a1, .int .i64 x.a2] 32)) (some ⟨w.heap.size, 0, none⟩) [x] := by
  refine ⟨by simp, fun _ => ⟨w.heap.size, 0, rfl, by simp, fun i y hy j u hu => ?_⟩⟩
  rcases i with _ | i
  · simp at hy; subst hy
    rw [cell_of_row _ _ _ _ _ _ (heap_alloc_new w _)]
    rcases j with _ | _ | _ | j <;> simp [EventR.enc] at hu <;> subst hu <;> simp
  · simp at hy
theorem soF_one (x : EventR) : (((soF [x]).length : Int) == 1) = vEvB x := by
  rcases Bool.eq_false_or_eq_true (vEvB x) with h | h
  · rw [soF_yes (by unfold vEvs; simp [h]), sortE_len, h]; rfl
  · rw [soF_no (by unfold vEvs; simp [h]), h]; rfl
def DrVe (w : World) (e : Ending) (w' : World) : Prop := ∃ x : EventR, e = .returned (.agg #[.int .i64 x.a0, .int .i64 x.a1, .int .i64 x.a2]) ∧ Below w.heap.size w w'
set_option maxHeartbeats 2000000 in
theorem drawValidEvent_any (w : World) (a : Option Addr) (len cap : Nat) (z : List Int) (h : IsRow .u8 w a len cap z) (hl : len ≤ 1048576) : Calls Try.prog 22 #[.slice a len cap] w (DrVe w) := by
  have g1 := Below.refl w.heap.size w
  have b2 := heap_alloc_new w (.cells #[.int .i64 0, .int .i64 0, .int .i64 0] 32)
  have g3 := g1.alloc (by have := g1.size; first | exact this | (simp; omega) | omega) (.cells #[.int .i64 0, .int .i64 0, .int .i64 0] 32)
  clear g1
  go_enter Try.func22, Try.ntmps22
  have ir4 := isRow_keep h g3
  have z5 : (w.alloc (.cells #[.int .i64 0, .int .i64 0, .int .i64 0] 32)).heap.size = w.heap.size + 1 := by simp
  have zz6 := Lib.hid z5
  clear z5
  clear h
  go_wp2_with fail
  refine (newReader_any _ a len cap z ir4 hl).mono ?_
  rintro e w1 ⟨R, rfl, hR, hrN, hbN⟩
  rw [zz6.out] at hR hbN
  have b7 := below_blk hbN b2 (by omega)
  have g8 := g3.trans (hbN.mono (by omega))
  have lt9 := rd_lt hrN
  have lt10 := blk_lt b7
  have sz11 := g8.size
  clear ir4 g3 zz6 b2 hbN
  go_wp2_with fail
  refine (anyEvent_any _ R 0 hrN (by omega)).mono ?_
  rintro e w2 ⟨x, y, z, p2, rfl, -, -, -, -, -, -, hp2, hr12, hg13⟩
  have zs_w2 := hg13.size
  have b14 := gr_blk hg13 b7 (by omega)
  have g15 := g8.trans (gr_of_below (B := w.heap.size) hg13 (by have := g8.size; first | exact this | (simp; omega) | omega) (by omega))
  have lt16 := rd_lt hr12
  have lt17 := blk_lt b14
  clear hg13 hrN g8 b7
  obtain ⟨s0, s1, s2, sf, sl⟩ := blk3 b14
  clear b14
  go_wp2
  refine bodyPost_ret (v := .agg #[.int .i64 x, .int .i64 y, .int .i64 z]) (by simp [results, Try.results22, go_sem, s0, s1, s2]) rfl ?_
  exact ⟨⟨x, y, z⟩, rfl, by go_grown⟩
end Go.Proofs.Ytehedhkadjidpaa
