/- The law FnExactPutVersion answers true at every input and leaves its arguments as they were; no condition. -/
import Derived.Test.YtgebijaojkmjiaaRows
import Derived.WalkKit
import Derived.WalkSpells
import Derived.WalkLawsBesides
import Derived.ProofKit
import Derived.OpenShut
import Derived.ShutString
import Derived.ChangeOld
import Derived.Below
import Derived.Lib.SmallJoins
import Derived.Handy
import Derived.Test.YtgebijaojkmjiaaPutI
import Derived.Test.YtgebijaojkmjiaaTyOpenVersion
namespace Go.Proofs.Ytgebijaojkmjiaa.fnExactPutVersion
open Go.ChangeShapes Go.WideShapes Go.ChangeAt Go.RowKit Go.Joins
open Go.ChangeMaps (open_string shut_string)
set_option linter.unusedVariables false

theorem own : ownKnob Try.prog.godebug = none := by kernel_rfl
theorem laidOut : laidOutB Try.prog = true := by kernel_rfl
theorem cells47 : Try.prog.cellsOf 47 = 3 := by kernel_rfl
set_option maxHeartbeats 1000000 in
theorem walk (a0 : Option Addr) (cap0 : Nat) (l0 : List VersionR) (x1Key : Int) (x1From : Int) (x1Value : Int) (w : World) (m0 : l0.length ≤ maxLen) (w0 : RowA VersionR.enc 3 w a0 l0) (l1_0 : -9223372036854775808 ≤ x1Key) (u1_0 : x1Key ≤ 9223372036854775807) (l1_1 : -9223372036854775808 ≤ x1From) (u1_1 : x1From ≤ 9223372036854775807) (l1_2 : -9223372036854775808 ≤ x1Value) (u1_2 : x1Value ≤ 9223372036854775807) :
    Calls Try.prog 8 #[.slice a0 l0.length cap0, .agg #[.int .i64 x1Key, .int .i64 x1From, .int .i64 x1Value]] w fun e w' => e = .returned (.bool true) ∧ Below w.heap.size w w' := by
  have hlb0 := m0
  by_cases hlen0 : l0.length ≤ 1048576
  · have ha0 : Row VersionR.enc 3 w a0 l0 := ⟨by omega, w0⟩
    clear hlb0 m0 w0
    go_enter Try.func8, Try.ntmps8
    go_wp2_with fail
    refine (szVersionS_ok a0 l0.length cap0 (1048576) _ (by omega) (by omega)).mono ?_
    rintro e w0 ⟨rfl, rfl⟩
    have hBA : Below w.heap.size w (w.alloc (.cells #[.int .i64 x1Key, .int .i64 x1From, .int .i64 x1Value] 47)) := ((Below.refl w.heap.size w).alloc (by simp) _)
    have cA0_0 : (w.alloc (.cells #[.int .i64 x1Key, .int .i64 x1From, .int .i64 x1Value] 47)).cell? ⟨w.heap.size, 0, none⟩ = some (.int .i64 x1Key) := by simp [go_sem]
    have cA0_1 : (w.alloc (.cells #[.int .i64 x1Key, .int .i64 x1From, .int .i64 x1Value] 47)).cell? ⟨w.heap.size, 1, none⟩ = some (.int .i64 x1From) := by simp [go_sem]
    have cA0_2 : (w.alloc (.cells #[.int .i64 x1Key, .int .i64 x1From, .int .i64 x1Value] 47)).cell? ⟨w.heap.size, 2, none⟩ = some (.int .i64 x1Value) := by simp [go_sem]
    have hA0 : w.heap.size < (w.alloc (.cells #[.int .i64 x1Key, .int .i64 x1From, .int .i64 x1Value] 47)).heap.size := by simp
    generalize (w.alloc (.cells #[.int .i64 x1Key, .int .i64 x1From, .int .i64 x1Value] 47)) = wA at *
    have BA0 : Below wA.heap.size wA wA := Below.refl _ _
    have B0 := hBA
    have s0_0_0 := (BA0.cell (p := ⟨w.heap.size, 0, none⟩) hA0).trans cA0_0
    have s0_1_0 := (BA0.cell (p := ⟨w.heap.size, 1, none⟩) hA0).trans cA0_1
    have s0_2_0 := (BA0.cell (p := ⟨w.heap.size, 2, none⟩) hA0).trans cA0_2
    go_wp2_with fail
    go_region_held3 (fun w' => w'.cell? ⟨w.heap.size, 0, none⟩ = some (.int .i64 x1Key) ∧ w'.cell? ⟨w.heap.size, 1, none⟩ = some (.int .i64 x1From) ∧ w'.cell? ⟨w.heap.size, 2, none⟩ = some (.int .i64 x1Value) ∧ wA.heap.size + 0 ≤ w'.heap.size ∧ Below wA.heap.size wA w') ((go_split_ands; (try have hz0 := b3.size); (try have hz1 := b2.size); (try have hz2 := b1.size); (repeat' apply And.intro) <;> first | assumption | (simp only [World.cell?_drew]; assumption) | (simp only [World.size_drew]; omega) | omega | exact Below.drew (Below.refl _ _) | (refine (b3.cell (by first | omega | (simp; done) | (simp; omega))).trans ?_; first | assumption | (simp only [World.cell?_drew]; assumption)) | (refine Below.trans ?_ (b3.mono (by first | omega | (simp; done) | (simp; omega) | (exact Below.size (by assumption)))); first | assumption | exact Below.drew (Below.refl _ _)) | (refine (b2.cell (by first | omega | (simp; done) | (simp; omega))).trans ?_; first | assumption | (simp only [World.cell?_drew]; assumption)) | (refine Below.trans ?_ (b2.mono (by first | omega | (simp; done) | (simp; omega) | (exact Below.size (by assumption)))); first | assumption | exact Below.drew (Below.refl _ _)) | (refine (b1.cell (by first | omega | (simp; done) | (simp; omega))).trans ?_; first | assumption | (simp only [World.cell?_drew]; assumption)) | (refine Below.trans ?_ (b1.mono (by first | omega | (simp; done) | (simp; omega) | (exact Below.size (by assumption)))); first | assumption | exact Below.drew (Below.refl _ _)) | (go_grown; done) | (simp; done) | (simp; omega) | (go_keep; done))) (first | (go_at_call 31; go_split_ands; refine (toVersionS_any a0 cap0 l0 _ (ha0.keep B0.drew)).mono ?_; rintro e w1 ⟨A1, c1, rfl, o1_1, b1⟩) | (go_at_call 35; go_split_ands; refine (toVersion_any x1Key x1From x1Value _).mono ?_; rintro e w2 ⟨rfl, b2⟩) | (go_at_call 34; go_split_ands; refine (specPut_any A1 c1 l0 ⟨x1Key, x1From, x1Value⟩ _ ((o1_1.keep b2).row VersionR.enc_len)).mono ?_; rintro e w3 ⟨A2, c2, rfl, o2_3, b3⟩))
    have BAd := BA0.drew
    have Bd := B0.drew
    have BA1 := BAd.trans (b1.mono BAd.size)
    have B1 := Bd.trans (b1.mono Bd.size)
    have z1 : wA.heap.size ≤ w1.heap.size := b1.size
    have lo1 : ∀ g, Value.ownBlock (.slice A1 (l0).length c1) = some g → wA.heap.size ≤ g := fun g hg => (o1_1.lt g hg).1
    have hi1 : ∀ g, Value.ownBlock (.slice A1 (l0).length c1) = some g → g < w1.heap.size := fun g hg => (o1_1.lt g hg).2
    have BA2 := BA1.trans (b2.mono BA1.size)
    have B2 := B1.trans (b2.mono B1.size)
    have z2 := b2.size
    have o1_2 := o1_1.keep b2
    clear o1_1
    have BA3 := BA2.trans (b3.mono BA2.size)
    have B3 := B2.trans (b3.mono B2.size)
    have z3 := b3.size
    have o1_3 := o1_2.keep b3
    clear o1_2
    have lo2 : ∀ g, Value.ownBlock (.slice A2 (putF l0 ⟨x1Key, x1From, x1Value⟩).length c2) = some g → w2.heap.size ≤ g := fun g hg => (o2_3.lt g hg).1
    have hi2 : ∀ g, Value.ownBlock (.slice A2 (putF l0 ⟨x1Key, x1From, x1Value⟩).length c2) = some g → g < w3.heap.size := fun g hg => (o2_3.lt g hg).2
    clear BAd Bd b1 b2 b3 s0_0_0 s0_1_0 s0_2_0
    clear o1_3
    go_wp2_with fail
    refine (toVersionS_any a0 cap0 l0 w3 (ha0.keep B3)).mono ?_
    rintro e w4 ⟨A3, c3, rfl, o3_4, b4⟩
    have B4 := B3.trans (b4.mono B3.size)
    have BA4 := BA3.trans (b4.mono BA3.size)
    have z4 := b4.size
    have o2_4 := o2_3.keep b4
    clear o2_3
    clear b4
    have lo3 : ∀ g, Value.ownBlock (.slice A3 (l0).length c3) = some g → w3.heap.size ≤ g := fun g hg => (o3_4.lt g hg).1
    have hi3 : ∀ g, Value.ownBlock (.slice A3 (l0).length c3) = some g → g < w4.heap.size := fun g hg => (o3_4.lt g hg).2
    have s0_0_4 := (BA4.cell (p := ⟨w.heap.size, 0, none⟩) hA0).trans cA0_0
    have s0_1_4 := (BA4.cell (p := ⟨w.heap.size, 1, none⟩) hA0).trans cA0_1
    have s0_2_4 := (BA4.cell (p := ⟨w.heap.size, 2, none⟩) hA0).trans cA0_2
    go_wp2_with fail
    refine (toVersion_any x1Key x1From x1Value w4).mono ?_
    rintro e w5 ⟨rfl, b5⟩
    clear s0_0_4 s0_1_4 s0_2_4
    have B5 := B4.trans (b5.mono B4.size)
    have BA5 := BA4.trans (b5.mono BA4.size)
    have z5 := b5.size
    have o2_5 := o2_4.keep b5
    clear o2_4
    have o3_5 := o3_4.keep b5
    clear o3_4
    clear b5
    go_wp2_with fail
    refine (implPut_any A3 c3 l0 ⟨x1Key, x1From, x1Value⟩ w5 (o3_5.row VersionR.enc_len) o3_5.lenCap).mono ?_
    rintro e w6 ⟨A4, c4, rfl, o4_6, b6⟩
    have B6 := B5.trans (b6.mono B5.size)
    have BA6 := BA5.trans (b6.mono BA5.size)
    have z6 := b6.size
    have o2_6 := o2_5.keep b6
    clear o2_5
    have o3_6 := o3_5.keep b6
    clear o3_5
    clear b6
    have lo4 : ∀ g, Value.ownBlock (.slice A4 (putF l0 ⟨x1Key, x1From, x1Value⟩).length c4) = some g → w5.heap.size ≤ g := fun g hg => (o4_6.lt g hg).1
    have hi4 : ∀ g, Value.ownBlock (.slice A4 (putF l0 ⟨x1Key, x1From, x1Value⟩).length c4) = some g → g < w6.heap.size := fun g hg => (o4_6.lt g hg).2
    go_wp2_with fail
    refine (eqVersionS_same A4 A2 c4 c2 _ w6 (o4_6.row VersionR.enc_len) (o2_6.row VersionR.enc_len)).mono ?_
    rintro e w7 ⟨rfl, b7⟩
    have B7 := B6.trans (b7.mono B6.size)
    have BA7 := BA6.trans (b7.mono BA6.size)
    have z7 := b7.size
    have o2_7 := o2_6.keep b7
    clear o2_6
    have o3_7 := o3_6.keep b7
    clear o3_6
    have o4_7 := o4_6.keep b7
    clear o4_6
    clear b7
    go_wp2_with fail
    refine (toVersionS_any a0 cap0 l0 w7 (ha0.keep B7)).mono ?_
    rintro e w8 ⟨A5, c5, rfl, o5_8, b8⟩
    have B8 := B7.trans (b8.mono B7.size)
    have BA8 := BA7.trans (b8.mono BA7.size)
    have z8 := b8.size
    have o2_8 := o2_7.keep b8
    clear o2_7
    have o3_8 := o3_7.keep b8
    clear o3_7
    have o4_8 := o4_7.keep b8
    clear o4_7
    clear b8
    have lo5 : ∀ g, Value.ownBlock (.slice A5 (l0).length c5) = some g → w7.heap.size ≤ g := fun g hg => (o5_8.lt g hg).1
    have hi5 : ∀ g, Value.ownBlock (.slice A5 (l0).length c5) = some g → g < w8.heap.size := fun g hg => (o5_8.lt g hg).2
    go_wp2_with fail
    refine (eqVersionS_same A3 A5 c3 c5 _ w8 (o3_8.row VersionR.enc_len) (o5_8.row VersionR.enc_len)).mono ?_
    rintro e w9 ⟨rfl, b9⟩
    have B9 := B8.trans (b9.mono B8.size)
    have BA9 := BA8.trans (b9.mono BA8.size)
    have z9 := b9.size
    have o2_9 := o2_8.keep b9
    clear o2_8
    have o3_9 := o3_8.keep b9
    clear o3_8
    have o4_9 := o4_8.keep b9
    clear o4_8
    have o5_9 := o5_8.keep b9
    clear o5_8
    clear b9
    clear o5_9
    go_wp2_with fail
    refine (markVersionS_any A3 c3 _ (1) _ _ w9 o3_9.2 o3_9.1 (by omega) (by omega)).mono ?_
    rintro e w10 ⟨rfl, -, g10⟩
    have B10 := B9.trans (below_of_gb (B0 := w.heap.size) g10 B9.size (fun g hg => by have := lo3 g hg; have := B3.size; omega))
    have BA10 := BA9.trans (below_of_gb (B0 := wA.heap.size) g10 BA9.size (fun g hg => by have := lo3 g hg; have := BA3.size; omega))
    have z10 := g10.size
    have o2_10 := o2_9.far g10 (fun g g' hg hg' => by have h1 := hi2 g hg; have h2 := lo3 g' hg'; omega)
    clear o2_9
    have o4_10 := o4_9.far g10 (fun g g' hg hg' => by have h1 := lo4 g hg; have h2 := hi3 g' hg'; omega)
    clear o4_9
    clear o3_9 g10
    go_wp2_with fail
    refine (eqVersionS_same A4 A2 c4 c2 _ w10 (o4_10.row VersionR.enc_len) (o2_10.row VersionR.enc_len)).mono ?_
    rintro e w11 ⟨rfl, b11⟩
    have B11 := B10.trans (b11.mono B10.size)
    have BA11 := BA10.trans (b11.mono BA10.size)
    have z11 := b11.size
    have o2_11 := o2_10.keep b11
    clear o2_10
    have o4_11 := o4_10.keep b11
    clear o4_10
    clear b11
    go_wp2_with fail
    refine (markVersionS_any A4 c4 _ (1) _ _ w11 o4_11.2 o4_11.1 (by omega) (by omega)).mono ?_
    rintro e w12 ⟨rfl, m4_12, g12⟩
    have hF4 := o4_11.1
    have B12 := B11.trans (below_of_gb (B0 := w.heap.size) g12 B11.size (fun g hg => by have := lo4 g hg; have := B5.size; omega))
    have BA12 := BA11.trans (below_of_gb (B0 := wA.heap.size) g12 BA11.size (fun g hg => by have := lo4 g hg; have := BA5.size; omega))
    have z12 := g12.size
    have o2_12 := o2_11.far g12 (fun g g' hg hg' => by have h1 := hi2 g hg; have h2 := lo4 g' hg'; omega)
    clear o2_11
    clear o4_11 g12
    go_wp2_with fail
    refine (heldVersionS_any A4 c4 _ (1) _ w12 m4_12 hF4 (by omega) (by omega)).mono ?_
    rintro e wx ⟨rfl, rfl⟩
    have s0_0_12 := (BA12.cell (p := ⟨w.heap.size, 0, none⟩) hA0).trans cA0_0
    have s0_1_12 := (BA12.cell (p := ⟨w.heap.size, 1, none⟩) hA0).trans cA0_1
    have s0_2_12 := (BA12.cell (p := ⟨w.heap.size, 2, none⟩) hA0).trans cA0_2
    go_wp2_with fail
    go_region_held3 (fun w' => w'.cell? ⟨w.heap.size, 0, none⟩ = some (.int .i64 x1Key) ∧ w'.cell? ⟨w.heap.size, 1, none⟩ = some (.int .i64 x1From) ∧ w'.cell? ⟨w.heap.size, 2, none⟩ = some (.int .i64 x1Value) ∧ w12.heap.size + 0 ≤ w'.heap.size ∧ Below w12.heap.size w12 w') ((go_split_ands; (try have hz0 := b15.size); (try have hz1 := b14.size); (try have hz2 := b13.size); (repeat' apply And.intro) <;> first | assumption | (simp only [World.cell?_drew]; assumption) | (simp only [World.size_drew]; omega) | omega | exact Below.drew (Below.refl _ _) | (refine (b15.cell (by first | omega | (simp; done) | (simp; omega))).trans ?_; first | assumption | (simp only [World.cell?_drew]; assumption)) | (refine Below.trans ?_ (b15.mono (by first | omega | (simp; done) | (simp; omega) | (exact Below.size (by assumption)))); first | assumption | exact Below.drew (Below.refl _ _)) | (refine (b14.cell (by first | omega | (simp; done) | (simp; omega))).trans ?_; first | assumption | (simp only [World.cell?_drew]; assumption)) | (refine Below.trans ?_ (b14.mono (by first | omega | (simp; done) | (simp; omega) | (exact Below.size (by assumption)))); first | assumption | exact Below.drew (Below.refl _ _)) | (refine (b13.cell (by first | omega | (simp; done) | (simp; omega))).trans ?_; first | assumption | (simp only [World.cell?_drew]; assumption)) | (refine Below.trans ?_ (b13.mono (by first | omega | (simp; done) | (simp; omega) | (exact Below.size (by assumption)))); first | assumption | exact Below.drew (Below.refl _ _)) | (go_grown; done) | (simp; done) | (simp; omega) | (go_keep; done))) (first | (go_at_call 31; go_split_ands; refine (toVersionS_any a0 cap0 l0 _ (ha0.keep B12.drew)).mono ?_; rintro e w13 ⟨A6, c6, rfl, o6_13, b13⟩) | (go_at_call 35; go_split_ands; refine (toVersion_any x1Key x1From x1Value _).mono ?_; rintro e w14 ⟨rfl, b14⟩) | (go_at_call 36; go_split_ands; refine (implPut_any A6 c6 l0 ⟨x1Key, x1From, x1Value⟩ _ ((o6_13.keep b14).row VersionR.enc_len) ((o6_13.keep b14)).lenCap).mono ?_; rintro e w15 ⟨A7, c7, rfl, o7_15, b15⟩))
    have BAd := BA12.drew
    have Bd := B12.drew
    have o2_d := o2_12.keep (Below.refl _ _).drew
    have m4_d := ownsRow_keep m4_12 (Below.refl _ _).drew
    have BA13 := BAd.trans (b13.mono BAd.size)
    have B13 := Bd.trans (b13.mono Bd.size)
    have z13 : w12.heap.size ≤ w13.heap.size := b13.size
    have o2_13 := o2_d.keep b13
    clear o2_d
    have m4_13 := ownsRow_keep m4_d b13
    clear m4_d
    have lo6 : ∀ g, Value.ownBlock (.slice A6 (l0).length c6) = some g → w12.heap.size ≤ g := fun g hg => (o6_13.lt g hg).1
    have hi6 : ∀ g, Value.ownBlock (.slice A6 (l0).length c6) = some g → g < w13.heap.size := fun g hg => (o6_13.lt g hg).2
    have BA14 := BA13.trans (b14.mono BA13.size)
    have B14 := B13.trans (b14.mono B13.size)
    have z14 := b14.size
    have o2_14 := o2_13.keep b14
    clear o2_13
    have o6_14 := o6_13.keep b14
    clear o6_13
    have m4_14 := ownsRow_keep m4_13 b14
    clear m4_13
    have BA15 := BA14.trans (b15.mono BA14.size)
    have B15 := B14.trans (b15.mono B14.size)
    have z15 := b15.size
    have o2_15 := o2_14.keep b15
    clear o2_14
    have o6_15 := o6_14.keep b15
    clear o6_14
    have m4_15 := ownsRow_keep m4_14 b15
    clear m4_14
    have lo7 : ∀ g, Value.ownBlock (.slice A7 (putF l0 ⟨x1Key, x1From, x1Value⟩).length c7) = some g → w14.heap.size ≤ g := fun g hg => (o7_15.lt g hg).1
    have hi7 : ∀ g, Value.ownBlock (.slice A7 (putF l0 ⟨x1Key, x1From, x1Value⟩).length c7) = some g → g < w15.heap.size := fun g hg => (o7_15.lt g hg).2
    clear BAd Bd b13 b14 b15 s0_0_12 s0_1_12 s0_2_12
    clear o6_15
    go_wp2_with fail
    refine (eqVersionS_same A7 A2 c7 c2 _ w15 (o7_15.row VersionR.enc_len) (o2_15.row VersionR.enc_len)).mono ?_
    rintro e w16 ⟨rfl, b16⟩
    have B16 := B15.trans (b16.mono B15.size)
    have BA16 := BA15.trans (b16.mono BA15.size)
    have z16 := b16.size
    have o2_16 := o2_15.keep b16
    clear o2_15
    have o7_16 := o7_15.keep b16
    clear o7_15
    have m4_16 := ownsRow_keep m4_15 b16
    clear m4_15
    clear b16
    go_wp2_with fail
    refine (heldVersionS_any A4 c4 _ (1) _ w16 m4_16 hF4 (by omega) (by omega)).mono ?_
    rintro e wx ⟨rfl, rfl⟩
    go_wp2
    all_goals go_returns
    all_goals exact ⟨rfl, B16⟩
  · go_enter Try.func8, Try.ntmps8
    go_wp2_with fail
    refine (szVersionS_big a0 l0.length cap0 (1048576) _ (by omega) (by omega) hlb0).mono ?_
    rintro e w1 ⟨rfl, rfl⟩
    go_wp2
    all_goals go_returns
    all_goals exact ⟨rfl, by go_grown⟩
set_option maxRecDepth 100000 in
theorem lifted (os : Os) (started : os.Started) (H : Type) (enc : TypeId × Value → H) :
    ReturnsInHanded {} Try.checked os 8 .any (Rows.fnExactPutVersionSpec.pre6 enc Try.prog Try.f8 Rows.fnExactPutVersionRow.domain false) (Rows.fnExactPutVersionSpec.post enc Try.prog Try.f8 false true false false) := by
  refine returnsInHanded_of_change (C := Try.checked) own started (by kernel_rfl) Try.func8
    (ChangeSpec.witness6 (enc := enc) (C := Try.checked) false ⟨#[], #[.slice none 0 0, .agg #[.int .i64 0, .int .i64 0, .int .i64 0]], []⟩ 8 (by kernel_rfl) (by kernel_rfl) (by kernel_rfl) (by kernel_rfl)) ?_
  intro W base args ds gs before hval0 hW hcnd _
  have hval : ∀ (j : Nat) t v, Try.f8.params[j]? = some t → args[j]? = some v → Value.okWide Try.prog W .any base t v := hval0
  have hW' := hW
  obtain ⟨p, q, hA0, hV, rfl, hfz, hnd⟩ := hW
  have hA : DataW.TrodAll enc Try.prog W 0 (fun _ => true) true Try.f8.params.toList args.toList ds p := hA0
  rw [Try.params8] at hA hval
  obtain ⟨v0, vs0, d0, ds0, p0, q0, hargs, rfl, rfl, h0, r0⟩ := trodAll_cons hA
  obtain ⟨v1, vs1, d1, ds1, p1, q1, rfl, rfl, rfl, h1, r1⟩ := trodAll_cons r0
  obtain ⟨rfl, rfl, rfl⟩ := trodAll_nil r1
  obtain rfl : args = #[v0, v1] := by cases args; simp_all
  obtain ⟨rfl, rfl⟩ := trodVars_none hV
  have k0 := h0
  have lt0 : ∀ x ∈ p0, x.block < W.heap.size := by obtain ⟨m, hm⟩ := k0; exact DataW.trod_lt m _ _ _ hm
  obtain ⟨a0, cap0, l0, rfl, m0, w0⟩ := open_VersionS (hval 0 38 v0 rfl rfl) h0
  have k1 := h1
  have lt1 : ∀ x ∈ p1, x.block < W.heap.size := by obtain ⟨m, hm⟩ := k1; exact DataW.trod_lt m _ _ _ hm
  obtain ⟨c1_0, c1_1, c1_2, y1_0, y1_1, y1_2, mm1, rfl, rfl, rfl, hy1_0, hy1_1, hy1_2⟩ := open_agg3 Try.underlying47 (by kernel_rfl) cells47 (hval 1 47 v1 rfl rfl) h1
  obtain ⟨x1Key, e1_0, rfl, wx1_0⟩ := DataW.trod_int Try.underlying3 hy1_0
  simp only [List.cons.injEq, and_true] at e1_0
  subst e1_0
  have b1_0 := bounds_i64 wx1_0
  obtain ⟨x1From, e1_1, rfl, wx1_1⟩ := DataW.trod_int Try.underlying3 hy1_1
  simp only [List.cons.injEq, and_true] at e1_1
  subst e1_1
  have b1_1 := bounds_i64 wx1_1
  obtain ⟨x1Value, e1_2, rfl, wx1_2⟩ := DataW.trod_int Try.underlying3 hy1_2
  simp only [List.cons.injEq, and_true] at e1_2
  subst e1_2
  have b1_2 := bounds_i64 wx1_2
  clear hA0 hval0
  refine (walk a0 cap0 l0 x1Key x1From x1Value W m0 w0 b1_0.1 b1_0.2 b1_1.1 b1_1.2 b1_2.1 b1_2.2).mono fun e W' ⟨he, bel⟩ => ?_
  subst he
  exact ⟨_, rfl, _, _, _, [], _, [], hW', trodAll_mk1 (shut_bool Try.underlying4 _), (trodAll_cons_mk (Below.trod laidOut (by kernel_rfl) (of_decide_eq_true (by kernel_rfl)) k0 bel lt0) (trodAll_cons_mk (Below.trod laidOut (by kernel_rfl) (of_decide_eq_true (by kernel_rfl)) k1 bel lt1) trodAll_mk0)), rfl, bel.frame _, fun h => by cases h⟩

theorem over : Rows.fnExactPutVersionRow.holds Try.pinned (OpenSpec.ofChange Rows.fnExactPutVersionSpec) :=
  OpenClaim.holds_of_wide 8 Try.f8 rfl rfl rfl rfl rfl rfl rfl ⟨rfl, rfl, rfl, rfl, rfl⟩ rfl rfl rfl rfl rfl (by kernel_rfl) Try.func8 (by kernel_rfl)
    (of_decide_eq_true (by kernel_rfl)) (by unfold Func.isWrapper; first | (rw [if_pos (by decide +kernel)]; kernel_rfl) | (rw [if_neg (by decide +kernel)]; exact ⟨rfl, rfl⟩))
    (fun os started H enc _ => lifted os started H enc)

theorem proved : Rows.FnExactPutVersionSaid := over
#print axioms proved
end Go.Proofs.Ytgebijaojkmjiaa.fnExactPutVersion
