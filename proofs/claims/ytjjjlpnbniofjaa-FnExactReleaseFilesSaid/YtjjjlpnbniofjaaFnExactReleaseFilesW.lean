/- The law FnExactReleaseFiles answers true at every input and leaves its arguments as they were; no condition. -/
import Derived.Test.YtjjjlpnbniofjaaRows
import Derived.WalkKit
import Derived.WalkSpells
import Derived.WalkLawsBesides
import Derived.ProofKit
import Derived.OpenShut
import Derived.ShutString
import Derived.ChangeOld
import Derived.Below
import Derived.Lib.SmallJoins
import Derived.Handy
import Derived.Test.YtjjjlpnbniofjaaMay
import Derived.Test.YtjjjlpnbniofjaaFrLI
import Derived.Test.YtjjjlpnbniofjaaTyIntT
import Derived.Test.YtjjjlpnbniofjaaTyOpenFileRef
import Derived.Test.YtjjjlpnbniofjaaTyOpenInt
namespace Go.Proofs.Ytjjjlpnbniofjaa.fnExactReleaseFiles
open Go.ChangeShapes Go.WideShapes Go.ChangeAt Go.RowKit Go.Joins
open Go.ChangeMaps (open_string shut_string)
set_option linter.unusedVariables false

theorem own : ownKnob Try.prog.godebug = none := by kernel_rfl
theorem laidOut : laidOutB Try.prog = true := by kernel_rfl
set_option maxRecDepth 100000 in
set_option maxHeartbeats 1000000 in
theorem walk (a0 : Option Addr) (cap0 : Nat) (l0 : List FileRefR) (a1 : Option Addr) (cap1 : Nat) (l1 : List Int) (w : World) (m0 : l0.length ≤ maxLen) (w0 : RowA FileRefR.enc 2 w a0 l0) (m1 : l1.length ≤ maxLen) (w1 : RowA IntR.enc 1 w a1 l1) (bi1 : ∀ x ∈ l1, -9223372036854775808 ≤ x ∧ x ≤ 9223372036854775807) :
    Calls Try.prog 6 #[.slice a0 l0.length cap0, .slice a1 l1.length cap1] w fun e w' => e = .returned (.bool true) ∧ Below w.heap.size w w' := by
  have hlb1 := m1
  unfold maxLen at hlb1
  by_cases hlen1 : l1.length ≤ 1048576
  · have ha1 : Row IntR.enc 1 w a1 l1 := ⟨by omega, w1⟩
    have hlb0 := m0
    by_cases hlen0 : l0.length ≤ 1048576
    · have ha0 : Row FileRefR.enc 2 w a0 l0 := ⟨by omega, w0⟩
      have B0 : Below w.heap.size w w := Below.refl _ _
      clear hlb0 m0 w0 hlb1 m1 w1
      go_enter Try.func6, Try.ntmps6
      go_wp2_with fail
      refine (szFileRefS_ok a0 l0.length cap0 (1048576) _ (by omega) (by omega)).mono ?_
      rintro e w0 ⟨rfl, rfl⟩
      go_wp2_with fail
      refine (toFileRefS_any a0 cap0 l0 w (ha0.keep B0)).mono ?_
      rintro e w1 ⟨A1, c1, rfl, o1_1, b1⟩
      have B1 := B0.trans (b1.mono B0.size)
      have z1 := b1.size
      clear b1
      have lo1 : ∀ g, Value.ownBlock (.slice A1 (l0).length c1) = some g → w.heap.size ≤ g := fun g hg => (o1_1.lt g hg).1
      have hi1 : ∀ g, Value.ownBlock (.slice A1 (l0).length c1) = some g → g < w1.heap.size := fun g hg => (o1_1.lt g hg).2
      go_wp2_with fail
      refine (toIntS_any a1 cap1 l1 w1 (ha1.keep B1)).mono ?_
      rintro e w2 ⟨A2, c2, rfl, o2_2, b2⟩
      have B2 := B1.trans (b2.mono B1.size)
      have z2 := b2.size
      have o1_2 := o1_1.keep b2
      clear o1_1
      clear b2
      have lo2 : ∀ g, Value.ownBlock (.slice A2 (l1).length c2) = some g → w1.heap.size ≤ g := fun g hg => (o2_2.lt g hg).1
      have hi2 : ∀ g, Value.ownBlock (.slice A2 (l1).length c2) = some g → g < w2.heap.size := fun g hg => (o2_2.lt g hg).2
      go_wp2_with fail
      refine (specRl_any A1 c1 l0 A2 c2 l1 w2 (o1_2.row FileRefR.enc_len) (o2_2.row IntR.enc_len)).mono ?_
      rintro e w3 ⟨A3, c3, A4, c4, rfl, o3_3, o4_3, d3_4, b3⟩
      have B3 := B2.trans (b3.mono B2.size)
      have z3 := b3.size
      have o1_3 := o1_2.keep b3
      clear o1_2
      have o2_3 := o2_2.keep b3
      clear o2_2
      clear b3
      have lo3 : ∀ g, Value.ownBlock (.slice A3 (rlF l0 l1).length c3) = some g → w2.heap.size ≤ g := fun g hg => (o3_3.lt g hg).1
      have hi3 : ∀ g, Value.ownBlock (.slice A3 (rlF l0 l1).length c3) = some g → g < w3.heap.size := fun g hg => (o3_3.lt g hg).2
      have lo4 : ∀ g, Value.ownBlock (.slice A4 (rlG l0 l1).length c4) = some g → w2.heap.size ≤ g := fun g hg => (o4_3.lt g hg).1
      have hi4 : ∀ g, Value.ownBlock (.slice A4 (rlG l0 l1).length c4) = some g → g < w3.heap.size := fun g hg => (o4_3.lt g hg).2
      clear o1_3
      clear o2_3
      go_wp2_with fail
      refine (toFileRefS_any a0 cap0 l0 w3 (ha0.keep B3)).mono ?_
      rintro e w4 ⟨A5, c5, rfl, o5_4, b4⟩
      have B4 := B3.trans (b4.mono B3.size)
      have z4 := b4.size
      have o3_4 := o3_3.keep b4
      clear o3_3
      have o4_4 := o4_3.keep b4
      clear o4_3
      clear b4
      have lo5 : ∀ g, Value.ownBlock (.slice A5 (l0).length c5) = some g → w3.heap.size ≤ g := fun g hg => (o5_4.lt g hg).1
      have hi5 : ∀ g, Value.ownBlock (.slice A5 (l0).length c5) = some g → g < w4.heap.size := fun g hg => (o5_4.lt g hg).2
      go_wp2_with fail
      refine (toIntS_any a1 cap1 l1 w4 (ha1.keep B4)).mono ?_
      rintro e w5 ⟨A6, c6, rfl, o6_5, b5⟩
      have B5 := B4.trans (b5.mono B4.size)
      have z5 := b5.size
      have o3_5 := o3_4.keep b5
      clear o3_4
      have o4_5 := o4_4.keep b5
      clear o4_4
      have o5_5 := o5_4.keep b5
      clear o5_4
      clear b5
      have lo6 : ∀ g, Value.ownBlock (.slice A6 (l1).length c6) = some g → w4.heap.size ≤ g := fun g hg => (o6_5.lt g hg).1
      have hi6 : ∀ g, Value.ownBlock (.slice A6 (l1).length c6) = some g → g < w5.heap.size := fun g hg => (o6_5.lt g hg).2
      go_wp2_with fail
      refine (implRl_any A5 c5 l0 A6 c6 l1 w5 (o5_5.row FileRefR.enc_len) (o6_5.row IntR.enc_len)).mono ?_
      rintro e w6 ⟨A7, c7, A8, c8, rfl, o7_6, o8_6, d7_8, b6⟩
      have B6 := B5.trans (b6.mono B5.size)
      have z6 := b6.size
      have o3_6 := o3_5.keep b6
      clear o3_5
      have o4_6 := o4_5.keep b6
      clear o4_5
      have o5_6 := o5_5.keep b6
      clear o5_5
      have o6_6 := o6_5.keep b6
      clear o6_5
      clear b6
      have lo7 : ∀ g, Value.ownBlock (.slice A7 (rlF l0 l1).length c7) = some g → w5.heap.size ≤ g := fun g hg => (o7_6.lt g hg).1
      have hi7 : ∀ g, Value.ownBlock (.slice A7 (rlF l0 l1).length c7) = some g → g < w6.heap.size := fun g hg => (o7_6.lt g hg).2
      have lo8 : ∀ g, Value.ownBlock (.slice A8 (rlG l0 l1).length c8) = some g → w5.heap.size ≤ g := fun g hg => (o8_6.lt g hg).1
      have hi8 : ∀ g, Value.ownBlock (.slice A8 (rlG l0 l1).length c8) = some g → g < w6.heap.size := fun g hg => (o8_6.lt g hg).2
      go_wp2_with fail
      refine (eqFileRefS_same A7 A3 c7 c3 _ w6 (o7_6.row FileRefR.enc_len) (o3_6.row FileRefR.enc_len)).mono ?_
      rintro e w7 ⟨rfl, b7⟩
      have B7 := B6.trans (b7.mono B6.size)
      have z7 := b7.size
      have o3_7 := o3_6.keep b7
      clear o3_6
      have o4_7 := o4_6.keep b7
      clear o4_6
      have o5_7 := o5_6.keep b7
      clear o5_6
      have o6_7 := o6_6.keep b7
      clear o6_6
      have o7_7 := o7_6.keep b7
      clear o7_6
      have o8_7 := o8_6.keep b7
      clear o8_6
      clear b7
      go_wp2_with fail
      refine (eqIntS_same A8 A4 c8 c4 _ w7 (o8_7.row IntR.enc_len) (o4_7.row IntR.enc_len)).mono ?_
      rintro e w8 ⟨rfl, b8⟩
      have B8 := B7.trans (b8.mono B7.size)
      have z8 := b8.size
      have o3_8 := o3_7.keep b8
      clear o3_7
      have o4_8 := o4_7.keep b8
      clear o4_7
      have o5_8 := o5_7.keep b8
      clear o5_7
      have o6_8 := o6_7.keep b8
      clear o6_7
      have o7_8 := o7_7.keep b8
      clear o7_7
      have o8_8 := o8_7.keep b8
      clear o8_7
      clear b8
      go_wp2_with fail
      refine (toFileRefS_any a0 cap0 l0 w8 (ha0.keep B8)).mono ?_
      rintro e w9 ⟨A9, c9, rfl, o9_9, b9⟩
      have B9 := B8.trans (b9.mono B8.size)
      have z9 := b9.size
      have o3_9 := o3_8.keep b9
      clear o3_8
      have o4_9 := o4_8.keep b9
      clear o4_8
      have o5_9 := o5_8.keep b9
      clear o5_8
      have o6_9 := o6_8.keep b9
      clear o6_8
      have o7_9 := o7_8.keep b9
      clear o7_8
      have o8_9 := o8_8.keep b9
      clear o8_8
      clear b9
      have lo9 : ∀ g, Value.ownBlock (.slice A9 (l0).length c9) = some g → w8.heap.size ≤ g := fun g hg => (o9_9.lt g hg).1
      have hi9 : ∀ g, Value.ownBlock (.slice A9 (l0).length c9) = some g → g < w9.heap.size := fun g hg => (o9_9.lt g hg).2
      go_wp2_with fail
      refine (eqFileRefS_same A5 A9 c5 c9 _ w9 (o5_9.row FileRefR.enc_len) (o9_9.row FileRefR.enc_len)).mono ?_
      rintro e w10 ⟨rfl, b10⟩
      have B10 := B9.trans (b10.mono B9.size)
      have z10 := b10.size
      have o3_10 := o3_9.keep b10
      clear o3_9
      have o4_10 := o4_9.keep b10
      clear o4_9
      have o5_10 := o5_9.keep b10
      clear o5_9
      have o6_10 := o6_9.keep b10
      clear o6_9
      have o7_10 := o7_9.keep b10
      clear o7_9
      have o8_10 := o8_9.keep b10
      clear o8_9
      have o9_10 := o9_9.keep b10
      clear o9_9
      clear b10
      clear o9_10
      go_wp2_with fail
      refine (toIntS_any a1 cap1 l1 w10 (ha1.keep B10)).mono ?_
      rintro e w11 ⟨A10, c10, rfl, o10_11, b11⟩
      have B11 := B10.trans (b11.mono B10.size)
      have z11 := b11.size
      have o3_11 := o3_10.keep b11
      clear o3_10
      have o4_11 := o4_10.keep b11
      clear o4_10
      have o5_11 := o5_10.keep b11
      clear o5_10
      have o6_11 := o6_10.keep b11
      clear o6_10
      have o7_11 := o7_10.keep b11
      clear o7_10
      have o8_11 := o8_10.keep b11
      clear o8_10
      clear b11
      have lo10 : ∀ g, Value.ownBlock (.slice A10 (l1).length c10) = some g → w10.heap.size ≤ g := fun g hg => (o10_11.lt g hg).1
      have hi10 : ∀ g, Value.ownBlock (.slice A10 (l1).length c10) = some g → g < w11.heap.size := fun g hg => (o10_11.lt g hg).2
      go_wp2_with fail
      refine (eqIntS_same A6 A10 c6 c10 _ w11 (o6_11.row IntR.enc_len) (o10_11.row IntR.enc_len)).mono ?_
      rintro e w12 ⟨rfl, b12⟩
      have B12 := B11.trans (b12.mono B11.size)
      have z12 := b12.size
      have o3_12 := o3_11.keep b12
      clear o3_11
      have o4_12 := o4_11.keep b12
      clear o4_11
      have o5_12 := o5_11.keep b12
      clear o5_11
      have o6_12 := o6_11.keep b12
      clear o6_11
      have o7_12 := o7_11.keep b12
      clear o7_11
      have o8_12 := o8_11.keep b12
      clear o8_11
      have o10_12 := o10_11.keep b12
      clear o10_11
      clear b12
      clear o10_12
      go_wp2_with fail
      refine (markFileRefS_any A5 c5 _ (1) _ _ w12 o5_12.2 o5_12.1 (by omega) (by omega)).mono ?_
      rintro e w13 ⟨rfl, -, g13⟩
      have B13 := B12.trans (below_of_gb (B0 := w.heap.size) g13 B12.size (fun g hg => by have := lo5 g hg; have := B3.size; omega))
      have z13 := g13.size
      have o3_13 := o3_12.far g13 (fun g g' hg hg' => by have h1 := hi3 g hg; have h2 := lo5 g' hg'; omega)
      clear o3_12
      have o4_13 := o4_12.far g13 (fun g g' hg hg' => by have h1 := hi4 g hg; have h2 := lo5 g' hg'; omega)
      clear o4_12
      have o6_13 := o6_12.far g13 (fun g g' hg hg' => by have h1 := lo6 g hg; have h2 := hi5 g' hg'; omega)
      clear o6_12
      have o7_13 := o7_12.far g13 (fun g g' hg hg' => by have h1 := lo7 g hg; have h2 := hi5 g' hg'; omega)
      clear o7_12
      have o8_13 := o8_12.far g13 (fun g g' hg hg' => by have h1 := lo8 g hg; have h2 := hi5 g' hg'; omega)
      clear o8_12
      clear o5_12 g13
      go_wp2_with fail
      refine (markIntS_any A6 c6 _ (1 + ((l0).length : Int) * 2) _ _ w13 o6_13.2 o6_13.1 (by omega) (by omega)).mono ?_
      rintro e w14 ⟨rfl, -, g14⟩
      have B14 := B13.trans (below_of_gb (B0 := w.heap.size) g14 B13.size (fun g hg => by have := lo6 g hg; have := B4.size; omega))
      have z14 := g14.size
      have o3_14 := o3_13.far g14 (fun g g' hg hg' => by have h1 := hi3 g hg; have h2 := lo6 g' hg'; omega)
      clear o3_13
      have o4_14 := o4_13.far g14 (fun g g' hg hg' => by have h1 := hi4 g hg; have h2 := lo6 g' hg'; omega)
      clear o4_13
      have o7_14 := o7_13.far g14 (fun g g' hg hg' => by have h1 := lo7 g hg; have h2 := hi6 g' hg'; omega)
      clear o7_13
      have o8_14 := o8_13.far g14 (fun g g' hg hg' => by have h1 := lo8 g hg; have h2 := hi6 g' hg'; omega)
      clear o8_13
      clear o6_13 g14
      go_wp2_with fail
      refine (eqFileRefS_same A7 A3 c7 c3 _ w14 (o7_14.row FileRefR.enc_len) (o3_14.row FileRefR.enc_len)).mono ?_
      rintro e w15 ⟨rfl, b15⟩
      have B15 := B14.trans (b15.mono B14.size)
      have z15 := b15.size
      have o3_15 := o3_14.keep b15
      clear o3_14
      have o4_15 := o4_14.keep b15
      clear o4_14
      have o7_15 := o7_14.keep b15
      clear o7_14
      have o8_15 := o8_14.keep b15
      clear o8_14
      clear b15
      go_wp2_with fail
      refine (eqIntS_same A8 A4 c8 c4 _ w15 (o8_15.row IntR.enc_len) (o4_15.row IntR.enc_len)).mono ?_
      rintro e w16 ⟨rfl, b16⟩
      have B16 := B15.trans (b16.mono B15.size)
      have z16 := b16.size
      have o3_16 := o3_15.keep b16
      clear o3_15
      have o4_16 := o4_15.keep b16
      clear o4_15
      have o7_16 := o7_15.keep b16
      clear o7_15
      have o8_16 := o8_15.keep b16
      clear o8_15
      clear b16
      go_wp2_with fail
      refine (markFileRefS_any A7 c7 _ (1) _ _ w16 o7_16.2 o7_16.1 (by omega) (by omega)).mono ?_
      rintro e w17 ⟨rfl, m7_17, g17⟩
      have hF7 := o7_16.1
      have B17 := B16.trans (below_of_gb (B0 := w.heap.size) g17 B16.size (fun g hg => by have := lo7 g hg; have := B5.size; omega))
      have z17 := g17.size
      have o3_17 := o3_16.far g17 (fun g g' hg hg' => by have h1 := hi3 g hg; have h2 := lo7 g' hg'; omega)
      clear o3_16
      have o4_17 := o4_16.far g17 (fun g g' hg hg' => by have h1 := hi4 g hg; have h2 := lo7 g' hg'; omega)
      clear o4_16
      have o8_17 := o8_16.far g17 (fun g g' hg hg' => (d7_8 g' g hg' hg).symm)
      clear o8_16
      clear o7_16 g17
      go_wp2_with fail
      refine (markIntS_any A8 c8 _ (1 + ((rlF l0 l1).length : Int) * 2) _ _ w17 o8_17.2 o8_17.1 (by omega) (by omega)).mono ?_
      rintro e w18 ⟨rfl, m8_18, g18⟩
      have hF8 := o8_17.1
      have B18 := B17.trans (below_of_gb (B0 := w.heap.size) g18 B17.size (fun g hg => by have := lo8 g hg; have := B5.size; omega))
      have z18 := g18.size
      have o3_18 := o3_17.far g18 (fun g g' hg hg' => by have h1 := hi3 g hg; have h2 := lo8 g' hg'; omega)
      clear o3_17
      have o4_18 := o4_17.far g18 (fun g g' hg hg' => by have h1 := hi4 g hg; have h2 := lo8 g' hg'; omega)
      clear o4_17
      have m7_18 := orow_far m7_17 g18 (fun g g' hg hg' => d7_8 g g' hg hg')
      clear m7_17
      clear o8_17 g18
      go_wp2_with fail
      refine (heldFileRefS_any A7 c7 _ (1) _ w18 m7_18 hF7 (by omega) (by omega)).mono ?_
      rintro e wx ⟨rfl, rfl⟩
      go_wp2_with fail
      refine (heldIntS_any A8 c8 _ (1 + ((rlF l0 l1).length : Int) * 2) _ w18 m8_18 hF8 (by omega) (by omega)).mono ?_
      rintro e wx ⟨rfl, rfl⟩
      go_wp2_with fail
      refine (toFileRefS_any a0 cap0 l0 w18 (ha0.keep B18)).mono ?_
      rintro e w19 ⟨A11, c11, rfl, o11_19, b19⟩
      have B19 := B18.trans (b19.mono B18.size)
      have z19 := b19.size
      have o3_19 := o3_18.keep b19
      clear o3_18
      have o4_19 := o4_18.keep b19
      clear o4_18
      have m7_19 := ownsRow_keep m7_18 b19
      clear m7_18
      have m8_19 := ownsRow_keep m8_18 b19
      clear m8_18
      clear b19
      have lo11 : ∀ g, Value.ownBlock (.slice A11 (l0).length c11) = some g → w18.heap.size ≤ g := fun g hg => (o11_19.lt g hg).1
      have hi11 : ∀ g, Value.ownBlock (.slice A11 (l0).length c11) = some g → g < w19.heap.size := fun g hg => (o11_19.lt g hg).2
      go_wp2_with fail
      refine (toIntS_any a1 cap1 l1 w19 (ha1.keep B19)).mono ?_
      rintro e w20 ⟨A12, c12, rfl, o12_20, b20⟩
      have B20 := B19.trans (b20.mono B19.size)
      have z20 := b20.size
      have o3_20 := o3_19.keep b20
      clear o3_19
      have o4_20 := o4_19.keep b20
      clear o4_19
      have o11_20 := o11_19.keep b20
      clear o11_19
      have m7_20 := ownsRow_keep m7_19 b20
      clear m7_19
      have m8_20 := ownsRow_keep m8_19 b20
      clear m8_19
      clear b20
      have lo12 : ∀ g, Value.ownBlock (.slice A12 (l1).length c12) = some g → w19.heap.size ≤ g := fun g hg => (o12_20.lt g hg).1
      have hi12 : ∀ g, Value.ownBlock (.slice A12 (l1).length c12) = some g → g < w20.heap.size := fun g hg => (o12_20.lt g hg).2
      go_wp2_with fail
      refine (implRl_any A11 c11 l0 A12 c12 l1 w20 (o11_20.row FileRefR.enc_len) (o12_20.row IntR.enc_len)).mono ?_
      rintro e w21 ⟨A13, c13, A14, c14, rfl, o13_21, o14_21, d13_14, b21⟩
      have B21 := B20.trans (b21.mono B20.size)
      have z21 := b21.size
      have o3_21 := o3_20.keep b21
      clear o3_20
      have o4_21 := o4_20.keep b21
      clear o4_20
      have o11_21 := o11_20.keep b21
      clear o11_20
      have o12_21 := o12_20.keep b21
      clear o12_20
      have m7_21 := ownsRow_keep m7_20 b21
      clear m7_20
      have m8_21 := ownsRow_keep m8_20 b21
      clear m8_20
      clear b21
      have lo13 : ∀ g, Value.ownBlock (.slice A13 (rlF l0 l1).length c13) = some g → w20.heap.size ≤ g := fun g hg => (o13_21.lt g hg).1
      have hi13 : ∀ g, Value.ownBlock (.slice A13 (rlF l0 l1).length c13) = some g → g < w21.heap.size := fun g hg => (o13_21.lt g hg).2
      have lo14 : ∀ g, Value.ownBlock (.slice A14 (rlG l0 l1).length c14) = some g → w20.heap.size ≤ g := fun g hg => (o14_21.lt g hg).1
      have hi14 : ∀ g, Value.ownBlock (.slice A14 (rlG l0 l1).length c14) = some g → g < w21.heap.size := fun g hg => (o14_21.lt g hg).2
      clear o11_21
      clear o12_21
      go_wp2_with fail
      refine (eqFileRefS_same A13 A3 c13 c3 _ w21 (o13_21.row FileRefR.enc_len) (o3_21.row FileRefR.enc_len)).mono ?_
      rintro e w22 ⟨rfl, b22⟩
      have B22 := B21.trans (b22.mono B21.size)
      have z22 := b22.size
      have o3_22 := o3_21.keep b22
      clear o3_21
      have o4_22 := o4_21.keep b22
      clear o4_21
      have o13_22 := o13_21.keep b22
      clear o13_21
      have o14_22 := o14_21.keep b22
      clear o14_21
      have m7_22 := ownsRow_keep m7_21 b22
      clear m7_21
      have m8_22 := ownsRow_keep m8_21 b22
      clear m8_21
      clear b22
      go_wp2_with fail
      refine (eqIntS_same A14 A4 c14 c4 _ w22 (o14_22.row IntR.enc_len) (o4_22.row IntR.enc_len)).mono ?_
      rintro e w23 ⟨rfl, b23⟩
      have B23 := B22.trans (b23.mono B22.size)
      have z23 := b23.size
      have o3_23 := o3_22.keep b23
      clear o3_22
      have o4_23 := o4_22.keep b23
      clear o4_22
      have o13_23 := o13_22.keep b23
      clear o13_22
      have o14_23 := o14_22.keep b23
      clear o14_22
      have m7_23 := ownsRow_keep m7_22 b23
      clear m7_22
      have m8_23 := ownsRow_keep m8_22 b23
      clear m8_22
      clear b23
      go_wp2_with fail
      refine (heldFileRefS_any A7 c7 _ (1) _ w23 m7_23 hF7 (by omega) (by omega)).mono ?_
      rintro e wx ⟨rfl, rfl⟩
      go_wp2_with fail
      refine (heldIntS_any A8 c8 _ (1 + ((rlF l0 l1).length : Int) * 2) _ w23 m8_23 hF8 (by omega) (by omega)).mono ?_
      rintro e wx ⟨rfl, rfl⟩
      go_wp2
      all_goals go_returns
      all_goals exact ⟨rfl, B23⟩
    · go_enter Try.func6, Try.ntmps6
      go_wp2_with fail
      refine (szFileRefS_big a0 l0.length cap0 (1048576) _ (by omega) (by omega) hlb0).mono ?_
      rintro e w1 ⟨rfl, rfl⟩
      go_wp2
      all_goals go_returns
      all_goals exact ⟨rfl, by go_grown⟩
  · go_enter Try.func6, Try.ntmps6
    go_wp2
    all_goals go_returns
    all_goals exact ⟨rfl, by go_grown⟩
end Go.Proofs.Ytjjjlpnbniofjaa.fnExactReleaseFiles
