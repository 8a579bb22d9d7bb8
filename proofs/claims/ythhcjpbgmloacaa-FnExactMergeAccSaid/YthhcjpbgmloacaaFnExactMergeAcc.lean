/- The law FnExactMergeAcc answers true at every input and leaves its arguments as they were; no condition. -/
import Derived.Test.YthhcjpbgmloacaaRows
import Derived.WalkKit
import Derived.WalkSpells
import Derived.WalkLawsBesides
import Derived.ProofKit
import Derived.OpenShut
import Derived.ShutString
import Derived.ChangeOld
import Derived.Below
import Derived.Lib.SmallJoins
import Derived.Handy
import Derived.Test.YthhcjpbgmloacaaRg4
namespace Go.Proofs.Ythhcjpbgmloacaa.fnExactMergeAcc
open Go.ChangeShapes Go.WideShapes Go.ChangeAt Go.RowKit Go.Joins
open Go.ChangeMaps (open_string shut_string)
set_option linter.unusedVariables false

theorem own : ownKnob Try.prog.godebug = none := by kernel_rfl
theorem laidOut : laidOutB Try.prog = true := by kernel_rfl
theorem cells38 : Try.prog.cellsOf 38 = 4 := by kernel_rfl
set_option maxRecDepth 100000 in
set_option maxHeartbeats 2000000 in
theorem walk (x0Count : Int) (x0Sum : Int) (x0Least : Int) (x0Most : Int) (x1Count : Int) (x1Sum : Int) (x1Least : Int) (x1Most : Int) (w : World) (l0_0 : -9223372036854775808 ≤ x0Count) (u0_0 : x0Count ≤ 9223372036854775807) (l0_1 : -9223372036854775808 ≤ x0Sum) (u0_1 : x0Sum ≤ 9223372036854775807) (l0_2 : -9223372036854775808 ≤ x0Least) (u0_2 : x0Least ≤ 9223372036854775807) (l0_3 : -9223372036854775808 ≤ x0Most) (u0_3 : x0Most ≤ 9223372036854775807) (l1_0 : -9223372036854775808 ≤ x1Count) (u1_0 : x1Count ≤ 9223372036854775807) (l1_1 : -9223372036854775808 ≤ x1Sum) (u1_1 : x1Sum ≤ 9223372036854775807) (l1_2 : -9223372036854775808 ≤ x1Least) (u1_2 : x1Least ≤ 9223372036854775807) (l1_3 : -9223372036854775808 ≤ x1Most) (u1_3 : x1Most ≤ 9223372036854775807) :
    Calls Try.prog 5 #[.agg #[.int .i64 x0Count, .int .i64 x0Sum, .int .i64 x0Least, .int .i64 x0Most], .agg #[.int .i64 x1Count, .int .i64 x1Sum, .int .i64 x1Least, .int .i64 x1Most]] w fun e w' => e = .returned (.bool true) ∧ Below w.heap.size w w' := by
  have P0_0 := (Bo.made w #[.int .i64 x0Count, .int .i64 x0Sum, .int .i64 x0Least, .int .i64 x0Most] 38).keep ((Below.refl _ _).alloc (Nat.le_refl _) (.cells #[.int .i64 x1Count, .int .i64 x1Sum, .int .i64 x1Least, .int .i64 x1Most] 38))
  have P1_0 := Bo.made (w.alloc (.cells #[.int .i64 x0Count, .int .i64 x0Sum, .int .i64 x0Least, .int .i64 x0Most] 38)) #[.int .i64 x1Count, .int .i64 x1Sum, .int .i64 x1Least, .int .i64 x1Most] 38
  simp only [World.size_alloc] at P1_0
  have B0 : Below w.heap.size w ((w.alloc (.cells #[.int .i64 x0Count, .int .i64 x0Sum, .int .i64 x0Least, .int .i64 x0Most] 38)).alloc (.cells #[.int .i64 x1Count, .int .i64 x1Sum, .int .i64 x1Least, .int .i64 x1Most] 38)) := by go_grown
  have pP00 := P0_0.1 0 _ rfl
  have pP01 := P0_0.1 1 _ rfl
  have pP02 := P0_0.1 2 _ rfl
  have pP03 := P0_0.1 3 _ rfl
  have plP0 := P0_0.2
  have pP10 := P1_0.1 0 _ rfl
  have pP11 := P1_0.1 1 _ rfl
  have pP12 := P1_0.1 2 _ rfl
  have pP13 := P1_0.1 3 _ rfl
  have plP1 := P1_0.2
  go_enter Try.func5, Try.ntmps5
  go_wp2_with fail
  generalize ((w.alloc (.cells #[.int .i64 x0Count, .int .i64 x0Sum, .int .i64 x0Least, .int .i64 x0Most] 38)).alloc (.cells #[.int .i64 x1Count, .int .i64 x1Sum, .int .i64 x1Least, .int .i64 x1Most] 38)) = u0 at *
  go_cut [5, 6] (fun s6 s7 wx => ∃ G : Nat, s6 = .pointer (some ⟨G, 0, none⟩) ∧ s7 = .bool (mgK x0Count x0Sum x0Least x0Most x1Count x1Sum x1Least x1Most) ∧ Mid4 u0 wx G (.int .i64 (mgC x0Count x0Sum x0Least x0Most x1Count x1Sum x1Least x1Most)) (.int .i64 (mgS x0Count x0Sum x0Least x0Most x1Count x1Sum x1Least x1Most)) (.int .i64 (mgL x0Count x0Sum x0Least x0Most x1Count x1Sum x1Least x1Most)) (.int .i64 (mgM x0Count x0Sum x0Least x0Most x1Count x1Sum x1Least x1Most)))
  case first =>
    have yy : u0.heap.size ≤ u0.heap.size := Nat.le_refl _
    have KK : Below u0.heap.size u0 u0 := Below.refl _ _
    go_region_held3 (fun w' => w'.cell? ⟨w.heap.size, 0, none⟩ = some (.int .i64 x0Count) ∧ w'.cell? ⟨w.heap.size, 1, none⟩ = some (.int .i64 x0Sum) ∧ w'.cell? ⟨w.heap.size, 2, none⟩ = some (.int .i64 x0Least) ∧ w'.cell? ⟨w.heap.size, 3, none⟩ = some (.int .i64 x0Most) ∧ w'.cell? ⟨w.heap.size + 1, 0, none⟩ = some (.int .i64 x1Count) ∧ w'.cell? ⟨w.heap.size + 1, 1, none⟩ = some (.int .i64 x1Sum) ∧ w'.cell? ⟨w.heap.size + 1, 2, none⟩ = some (.int .i64 x1Least) ∧ w'.cell? ⟨w.heap.size + 1, 3, none⟩ = some (.int .i64 x1Most) ∧ u0.heap.size ≤ w'.heap.size ∧ Below u0.heap.size u0 w') (((repeat' apply And.intro) <;> first | (with_reducible assumption) | (simp only [World.cell?_drew]; with_reducible assumption) | (simp only [World.size_drew]; with_reducible assumption) | (exact Below.drew (by with_reducible assumption)) | (go_keep; done) | (simp [go_sem, *]; done) | (simp [World.setCell]; omega) | ((repeat (refine Below.setCell ?_ (by first | (simp; done) | (simp; omega)) _)); with_reducible assumption) | go_grown)) (first | (have _t := z1_r; go_at_call 13; go_split_ands; (with_reducible refine (toAcc_any x1Count x1Sum x1Least x1Most _).mono ?_); rintro e v2 ⟨rfl, b2_r⟩; have z2_r : u0.heap.size ≤ v2.heap.size := Nat.le_trans (by with_reducible assumption) b2_r.size; have K2_r : Below u0.heap.size u0 v2 := Below.trans (by with_reducible assumption) (b2_r.mono (by with_reducible assumption)); have sP00_2 : v2.cell? ⟨w.heap.size, 0, none⟩ = some (.int .i64 x0Count) := (K2_r.cell plP0).trans pP00; have sP01_2 : v2.cell? ⟨w.heap.size, 1, none⟩ = some (.int .i64 x0Sum) := (K2_r.cell plP0).trans pP01; have sP02_2 : v2.cell? ⟨w.heap.size, 2, none⟩ = some (.int .i64 x0Least) := (K2_r.cell plP0).trans pP02; have sP03_2 : v2.cell? ⟨w.heap.size, 3, none⟩ = some (.int .i64 x0Most) := (K2_r.cell plP0).trans pP03; have sP10_2 : v2.cell? ⟨w.heap.size + 1, 0, none⟩ = some (.int .i64 x1Count) := (K2_r.cell plP1).trans pP10; have sP11_2 : v2.cell? ⟨w.heap.size + 1, 1, none⟩ = some (.int .i64 x1Sum) := (K2_r.cell plP1).trans pP11; have sP12_2 : v2.cell? ⟨w.heap.size + 1, 2, none⟩ = some (.int .i64 x1Least) := (K2_r.cell plP1).trans pP12; have sP13_2 : v2.cell? ⟨w.heap.size + 1, 3, none⟩ = some (.int .i64 x1Most) := (K2_r.cell plP1).trans pP13; (first | have hNn := made4d b2_r | have hNn := made4 b2_r | have hNn := B4.keep hNn b2_r | skip); (first | (have hNx := hNn; obtain ⟨n0, n1, n2, n3, nf, nl⟩ := hNx; (try simp only [World.size_drew] at n0 n1 n2 n3 nf nl)) | skip)) | (go_at_call 13; go_split_ands; (with_reducible refine (toAcc_any x0Count x0Sum x0Least x0Most _).mono ?_); rintro e v1 ⟨rfl, b1_r⟩; have z1_r : u0.heap.size ≤ v1.heap.size := Nat.le_trans (by with_reducible assumption) b1_r.size; have K1_r : Below u0.heap.size u0 v1 := Below.trans (by with_reducible assumption) (b1_r.mono (by with_reducible assumption)); have sP00_1 : v1.cell? ⟨w.heap.size, 0, none⟩ = some (.int .i64 x0Count) := (K1_r.cell plP0).trans pP00; have sP01_1 : v1.cell? ⟨w.heap.size, 1, none⟩ = some (.int .i64 x0Sum) := (K1_r.cell plP0).trans pP01; have sP02_1 : v1.cell? ⟨w.heap.size, 2, none⟩ = some (.int .i64 x0Least) := (K1_r.cell plP0).trans pP02; have sP03_1 : v1.cell? ⟨w.heap.size, 3, none⟩ = some (.int .i64 x0Most) := (K1_r.cell plP0).trans pP03; have sP10_1 : v1.cell? ⟨w.heap.size + 1, 0, none⟩ = some (.int .i64 x1Count) := (K1_r.cell plP1).trans pP10; have sP11_1 : v1.cell? ⟨w.heap.size + 1, 1, none⟩ = some (.int .i64 x1Sum) := (K1_r.cell plP1).trans pP11; have sP12_1 : v1.cell? ⟨w.heap.size + 1, 2, none⟩ = some (.int .i64 x1Least) := (K1_r.cell plP1).trans pP12; have sP13_1 : v1.cell? ⟨w.heap.size + 1, 3, none⟩ = some (.int .i64 x1Most) := (K1_r.cell plP1).trans pP13; (first | have hNn := made4d b1_r | have hNn := made4 b1_r | have hNn := B4.keep hNn b1_r | skip); (first | (have hNx := hNn; obtain ⟨n0, n1, n2, n3, nf, nl⟩ := hNx; (try simp only [World.size_drew] at n0 n1 n2 n3 nf nl)) | skip)) | (go_at_call 12; go_split_ands; refine (mgS_x x0Count x0Sum x0Least x0Most x1Count x1Sum x1Least x1Most _).mono ?_; rintro e v3 ⟨rfl, b3_r⟩; have z3_r : u0.heap.size ≤ v3.heap.size := Nat.le_trans (by with_reducible assumption) b3_r.size; have K3_r : Below u0.heap.size u0 v3 := Below.trans (by with_reducible assumption) (b3_r.mono (by with_reducible assumption)); have sP00_3 : v3.cell? ⟨w.heap.size, 0, none⟩ = some (.int .i64 x0Count) := (K3_r.cell plP0).trans pP00; have sP01_3 : v3.cell? ⟨w.heap.size, 1, none⟩ = some (.int .i64 x0Sum) := (K3_r.cell plP0).trans pP01; have sP02_3 : v3.cell? ⟨w.heap.size, 2, none⟩ = some (.int .i64 x0Least) := (K3_r.cell plP0).trans pP02; have sP03_3 : v3.cell? ⟨w.heap.size, 3, none⟩ = some (.int .i64 x0Most) := (K3_r.cell plP0).trans pP03; have sP10_3 : v3.cell? ⟨w.heap.size + 1, 0, none⟩ = some (.int .i64 x1Count) := (K3_r.cell plP1).trans pP10; have sP11_3 : v3.cell? ⟨w.heap.size + 1, 1, none⟩ = some (.int .i64 x1Sum) := (K3_r.cell plP1).trans pP11; have sP12_3 : v3.cell? ⟨w.heap.size + 1, 2, none⟩ = some (.int .i64 x1Least) := (K3_r.cell plP1).trans pP12; have sP13_3 : v3.cell? ⟨w.heap.size + 1, 3, none⟩ = some (.int .i64 x1Most) := (K3_r.cell plP1).trans pP13; (first | have hNn := made4d b3_r | have hNn := made4 b3_r | have hNn := B4.keep hNn b3_r | skip); (first | (have hNx := hNn; obtain ⟨n0, n1, n2, n3, nf, nl⟩ := hNx; (try simp only [World.size_drew] at n0 n1 n2 n3 nf nl)) | skip)))
    all_goals
      go_wp2_with fail
      go_meet
      first
        | exact ⟨_, rfl, rfl, mid4A _ _ _ _ _ K3_r⟩
        | exact ⟨_, rfl, rfl, mid4B _ _ _ _ K3_r hNn (by first | exact Nat.le_refl _ | with_reducible assumption | omega | (simp; omega))⟩
  case rest =>
    obtain ⟨GW, rfl, rfl, b, N0, zGW⟩ := hcut
    clear pP00 pP01 pP02 pP03 plP0
    clear pP10 pP11 pP12 pP13 plP1
    generalize wc = u1 at *
    have B1 := B0.trans (b.mono B0.size)
    have z1 := b.size
    have P0_1 := P0_0.keep b
    have P1_1 := P1_0.keep b
    clear P0_0 P1_0 b
    have W_1 := Bo.ofB4 N0
    clear N0
    have pP00 := P0_1.1 0 _ rfl
    have pP01 := P0_1.1 1 _ rfl
    have pP02 := P0_1.1 2 _ rfl
    have pP03 := P0_1.1 3 _ rfl
    have plP0 := P0_1.2
    have pP10 := P1_1.1 0 _ rfl
    have pP11 := P1_1.1 1 _ rfl
    have pP12 := P1_1.1 2 _ rfl
    have pP13 := P1_1.1 3 _ rfl
    have plP1 := P1_1.2
    go_wp2_with fail
    go_cut [7, 8] (fun s6 s7 wx => ∃ G : Nat, s6 = .pointer (some ⟨G, 0, none⟩) ∧ s7 = .bool (mgK x0Count x0Sum x0Least x0Most x1Count x1Sum x1Least x1Most) ∧ Mid4 u1 wx G (.int .i64 (mgC x0Count x0Sum x0Least x0Most x1Count x1Sum x1Least x1Most)) (.int .i64 (mgS x0Count x0Sum x0Least x0Most x1Count x1Sum x1Least x1Most)) (.int .i64 (mgL x0Count x0Sum x0Least x0Most x1Count x1Sum x1Least x1Most)) (.int .i64 (mgM x0Count x0Sum x0Least x0Most x1Count x1Sum x1Least x1Most)))
    case first =>
      have yy : u1.heap.size ≤ u1.heap.size := Nat.le_refl _
      have KK : Below u1.heap.size u1 u1 := Below.refl _ _
      go_region_held3 (fun w' => w'.cell? ⟨w.heap.size, 0, none⟩ = some (.int .i64 x0Count) ∧ w'.cell? ⟨w.heap.size, 1, none⟩ = some (.int .i64 x0Sum) ∧ w'.cell? ⟨w.heap.size, 2, none⟩ = some (.int .i64 x0Least) ∧ w'.cell? ⟨w.heap.size, 3, none⟩ = some (.int .i64 x0Most) ∧ w'.cell? ⟨w.heap.size + 1, 0, none⟩ = some (.int .i64 x1Count) ∧ w'.cell? ⟨w.heap.size + 1, 1, none⟩ = some (.int .i64 x1Sum) ∧ w'.cell? ⟨w.heap.size + 1, 2, none⟩ = some (.int .i64 x1Least) ∧ w'.cell? ⟨w.heap.size + 1, 3, none⟩ = some (.int .i64 x1Most) ∧ u1.heap.size ≤ w'.heap.size ∧ Below u1.heap.size u1 w') (((repeat' apply And.intro) <;> first | (with_reducible assumption) | (simp only [World.cell?_drew]; with_reducible assumption) | (simp only [World.size_drew]; with_reducible assumption) | (exact Below.drew (by with_reducible assumption)) | (go_keep; done) | (simp [go_sem, *]; done) | (simp [World.setCell]; omega) | ((repeat (refine Below.setCell ?_ (by first | (simp; done) | (simp; omega)) _)); with_reducible assumption) | go_grown)) (first | (have _t := z1_r; go_at_call 13; go_split_ands; (with_reducible refine (toAcc_any x1Count x1Sum x1Least x1Most _).mono ?_); rintro e v2 ⟨rfl, b2_r⟩; have z2_r : u1.heap.size ≤ v2.heap.size := Nat.le_trans (by with_reducible assumption) b2_r.size; have K2_r : Below u1.heap.size u1 v2 := Below.trans (by with_reducible assumption) (b2_r.mono (by with_reducible assumption)); have sP00_2 : v2.cell? ⟨w.heap.size, 0, none⟩ = some (.int .i64 x0Count) := (K2_r.cell plP0).trans pP00; have sP01_2 : v2.cell? ⟨w.heap.size, 1, none⟩ = some (.int .i64 x0Sum) := (K2_r.cell plP0).trans pP01; have sP02_2 : v2.cell? ⟨w.heap.size, 2, none⟩ = some (.int .i64 x0Least) := (K2_r.cell plP0).trans pP02; have sP03_2 : v2.cell? ⟨w.heap.size, 3, none⟩ = some (.int .i64 x0Most) := (K2_r.cell plP0).trans pP03; have sP10_2 : v2.cell? ⟨w.heap.size + 1, 0, none⟩ = some (.int .i64 x1Count) := (K2_r.cell plP1).trans pP10; have sP11_2 : v2.cell? ⟨w.heap.size + 1, 1, none⟩ = some (.int .i64 x1Sum) := (K2_r.cell plP1).trans pP11; have sP12_2 : v2.cell? ⟨w.heap.size + 1, 2, none⟩ = some (.int .i64 x1Least) := (K2_r.cell plP1).trans pP12; have sP13_2 : v2.cell? ⟨w.heap.size + 1, 3, none⟩ = some (.int .i64 x1Most) := (K2_r.cell plP1).trans pP13; (first | have hNn := made4d b2_r | have hNn := made4 b2_r | have hNn := B4.keep hNn b2_r | skip); (first | (have hNx := hNn; obtain ⟨n0, n1, n2, n3, nf, nl⟩ := hNx; (try simp only [World.size_drew] at n0 n1 n2 n3 nf nl)) | skip)) | (go_at_call 13; go_split_ands; (with_reducible refine (toAcc_any x0Count x0Sum x0Least x0Most _).mono ?_); rintro e v1 ⟨rfl, b1_r⟩; have z1_r : u1.heap.size ≤ v1.heap.size := Nat.le_trans (by with_reducible assumption) b1_r.size; have K1_r : Below u1.heap.size u1 v1 := Below.trans (by with_reducible assumption) (b1_r.mono (by with_reducible assumption)); have sP00_1 : v1.cell? ⟨w.heap.size, 0, none⟩ = some (.int .i64 x0Count) := (K1_r.cell plP0).trans pP00; have sP01_1 : v1.cell? ⟨w.heap.size, 1, none⟩ = some (.int .i64 x0Sum) := (K1_r.cell plP0).trans pP01; have sP02_1 : v1.cell? ⟨w.heap.size, 2, none⟩ = some (.int .i64 x0Least) := (K1_r.cell plP0).trans pP02; have sP03_1 : v1.cell? ⟨w.heap.size, 3, none⟩ = some (.int .i64 x0Most) := (K1_r.cell plP0).trans pP03; have sP10_1 : v1.cell? ⟨w.heap.size + 1, 0, none⟩ = some (.int .i64 x1Count) := (K1_r.cell plP1).trans pP10; have sP11_1 : v1.cell? ⟨w.heap.size + 1, 1, none⟩ = some (.int .i64 x1Sum) := (K1_r.cell plP1).trans pP11; have sP12_1 : v1.cell? ⟨w.heap.size + 1, 2, none⟩ = some (.int .i64 x1Least) := (K1_r.cell plP1).trans pP12; have sP13_1 : v1.cell? ⟨w.heap.size + 1, 3, none⟩ = some (.int .i64 x1Most) := (K1_r.cell plP1).trans pP13; (first | have hNn := made4d b1_r | have hNn := made4 b1_r | have hNn := B4.keep hNn b1_r | skip); (first | (have hNx := hNn; obtain ⟨n0, n1, n2, n3, nf, nl⟩ := hNx; (try simp only [World.size_drew] at n0 n1 n2 n3 nf nl)) | skip)) | (go_at_call 14; go_split_ands; refine (mgI_x x0Count x0Sum x0Least x0Most x1Count x1Sum x1Least x1Most _).mono ?_; rintro e v3 ⟨rfl, b3_r⟩; have z3_r : u1.heap.size ≤ v3.heap.size := Nat.le_trans (by with_reducible assumption) b3_r.size; have K3_r : Below u1.heap.size u1 v3 := Below.trans (by with_reducible assumption) (b3_r.mono (by with_reducible assumption)); have sP00_3 : v3.cell? ⟨w.heap.size, 0, none⟩ = some (.int .i64 x0Count) := (K3_r.cell plP0).trans pP00; have sP01_3 : v3.cell? ⟨w.heap.size, 1, none⟩ = some (.int .i64 x0Sum) := (K3_r.cell plP0).trans pP01; have sP02_3 : v3.cell? ⟨w.heap.size, 2, none⟩ = some (.int .i64 x0Least) := (K3_r.cell plP0).trans pP02; have sP03_3 : v3.cell? ⟨w.heap.size, 3, none⟩ = some (.int .i64 x0Most) := (K3_r.cell plP0).trans pP03; have sP10_3 : v3.cell? ⟨w.heap.size + 1, 0, none⟩ = some (.int .i64 x1Count) := (K3_r.cell plP1).trans pP10; have sP11_3 : v3.cell? ⟨w.heap.size + 1, 1, none⟩ = some (.int .i64 x1Sum) := (K3_r.cell plP1).trans pP11; have sP12_3 : v3.cell? ⟨w.heap.size + 1, 2, none⟩ = some (.int .i64 x1Least) := (K3_r.cell plP1).trans pP12; have sP13_3 : v3.cell? ⟨w.heap.size + 1, 3, none⟩ = some (.int .i64 x1Most) := (K3_r.cell plP1).trans pP13; (first | have hNn := made4d b3_r | have hNn := made4 b3_r | have hNn := B4.keep hNn b3_r | skip); (first | (have hNx := hNn; obtain ⟨n0, n1, n2, n3, nf, nl⟩ := hNx; (try simp only [World.size_drew] at n0 n1 n2 n3 nf nl)) | skip)))
      all_goals
        go_wp2_with fail
        go_meet
        first
          | exact ⟨_, rfl, rfl, mid4A _ _ _ _ _ K3_r⟩
          | exact ⟨_, rfl, rfl, mid4B _ _ _ _ K3_r hNn (by first | exact Nat.le_refl _ | with_reducible assumption | omega | (simp; omega))⟩
    case rest =>
      obtain ⟨GG, rfl, rfl, b, N0, zGG⟩ := hcut
      clear pP00 pP01 pP02 pP03 plP0
      clear pP10 pP11 pP12 pP13 plP1
      generalize wc = u2 at *
      have B2 := B1.trans (b.mono B1.size)
      have z2 := b.size
      have P0_2 := P0_1.keep b
      have P1_2 := P1_1.keep b
      have W_2 := W_1.keep b
      clear P0_1 P1_1 W_1 b
      have G_2 := Bo.ofB4 N0
      clear N0
      have pG0 := G_2.1 0 _ rfl
      have pG1 := G_2.1 1 _ rfl
      have pG2 := G_2.1 2 _ rfl
      have pG3 := G_2.1 3 _ rfl
      have plG := G_2.2
      have pW0 := W_2.1 0 _ rfl
      have pW1 := W_2.1 1 _ rfl
      have pW2 := W_2.1 2 _ rfl
      have pW3 := W_2.1 3 _ rfl
      have plW := W_2.2
      go_wp2_with fail
      clear pG0 pG1 pG2 pG3 plG
      clear pW0 pW1 pW2 pW3 plW
      refine (eqAcc_same (mgC x0Count x0Sum x0Least x0Most x1Count x1Sum x1Least x1Most) (mgS x0Count x0Sum x0Least x0Most x1Count x1Sum x1Least x1Most) (mgL x0Count x0Sum x0Least x0Most x1Count x1Sum x1Least x1Most) (mgM x0Count x0Sum x0Least x0Most x1Count x1Sum x1Least x1Most) _).mono ?_
      rintro e u3 ⟨rfl, b⟩
      have B3 := B2.trans (b.mono B2.size)
      have z3 := b.size
      have P0_3 := P0_2.keep b
      have P1_3 := P1_2.keep b
      have W_3 := W_2.keep b
      have G_3 := G_2.keep b
      clear P0_2 P1_2 W_2 G_2 b
      go_wp2
      all_goals go_returns
      all_goals exact ⟨by first | rfl | simp, B3⟩
set_option maxRecDepth 100000 in
theorem lifted (os : Os) (started : os.Started) (H : Type) (enc : TypeId × Value → H) :
    ReturnsInHanded {} Try.checked os 5 .any (Rows.fnExactMergeAccSpec.pre6 enc Try.prog Try.f5 Rows.fnExactMergeAccRow.domain false) (Rows.fnExactMergeAccSpec.post enc Try.prog Try.f5 false true false false) := by
  refine returnsInHanded_of_change (C := Try.checked) own started (by kernel_rfl) Try.func5
    (ChangeSpec.witness6 (enc := enc) (C := Try.checked) false ⟨#[], #[.agg #[.int .i64 0, .int .i64 0, .int .i64 0, .int .i64 0], .agg #[.int .i64 0, .int .i64 0, .int .i64 0, .int .i64 0]], []⟩ 8 (by kernel_rfl) (by kernel_rfl) (by kernel_rfl) (by kernel_rfl)) ?_
  intro W base args ds gs before hval0 hW hcnd _
  have hval : ∀ (j : Nat) t v, Try.f5.params[j]? = some t → args[j]? = some v → Value.okWide Try.prog W .any base t v := hval0
  have hW' := hW
  obtain ⟨p, q, hA0, hV, rfl, hfz, hnd⟩ := hW
  have hA : DataW.TrodAll enc Try.prog W 0 (fun _ => true) true Try.f5.params.toList args.toList ds p := hA0
  rw [Try.params5] at hA hval
  obtain ⟨v0, vs0, d0, ds0, p0, q0, hargs, rfl, rfl, h0, r0⟩ := trodAll_cons hA
  obtain ⟨v1, vs1, d1, ds1, p1, q1, rfl, rfl, rfl, h1, r1⟩ := trodAll_cons r0
  obtain ⟨rfl, rfl, rfl⟩ := trodAll_nil r1
  obtain rfl : args = #[v0, v1] := by cases args; simp_all
  obtain ⟨rfl, rfl⟩ := trodVars_none hV
  have k0 := h0
  have lt0 : ∀ x ∈ p0, x.block < W.heap.size := by obtain ⟨m, hm⟩ := k0; exact DataW.trod_lt m _ _ _ hm
  obtain ⟨c0_0, c0_1, c0_2, c0_3, y0_0, y0_1, y0_2, y0_3, mm0, rfl, rfl, rfl, hy0_0, hy0_1, hy0_2, hy0_3⟩ := open_agg4 Try.underlying38 (by kernel_rfl) cells38 (hval 0 38 v0 rfl rfl) h0
  obtain ⟨x0Count, e0_0, rfl, wx0_0⟩ := DataW.trod_int Try.underlying3 hy0_0
  simp only [List.cons.injEq, and_true] at e0_0
  subst e0_0
  have b0_0 := bounds_i64 wx0_0
  obtain ⟨x0Sum, e0_1, rfl, wx0_1⟩ := DataW.trod_int Try.underlying3 hy0_1
  simp only [List.cons.injEq, and_true] at e0_1
  subst e0_1
  have b0_1 := bounds_i64 wx0_1
  obtain ⟨x0Least, e0_2, rfl, wx0_2⟩ := DataW.trod_int Try.underlying3 hy0_2
  simp only [List.cons.injEq, and_true] at e0_2
  subst e0_2
  have b0_2 := bounds_i64 wx0_2
  obtain ⟨x0Most, e0_3, rfl, wx0_3⟩ := DataW.trod_int Try.underlying3 hy0_3
  simp only [List.cons.injEq, and_true] at e0_3
  subst e0_3
  have b0_3 := bounds_i64 wx0_3
  have k1 := h1
  have lt1 : ∀ x ∈ p1, x.block < W.heap.size := by obtain ⟨m, hm⟩ := k1; exact DataW.trod_lt m _ _ _ hm
  obtain ⟨c1_0, c1_1, c1_2, c1_3, y1_0, y1_1, y1_2, y1_3, mm1, rfl, rfl, rfl, hy1_0, hy1_1, hy1_2, hy1_3⟩ := open_agg4 Try.underlying38 (by kernel_rfl) cells38 (hval 1 38 v1 rfl rfl) h1
  obtain ⟨x1Count, e1_0, rfl, wx1_0⟩ := DataW.trod_int Try.underlying3 hy1_0
  simp only [List.cons.injEq, and_true] at e1_0
  subst e1_0
  have b1_0 := bounds_i64 wx1_0
  obtain ⟨x1Sum, e1_1, rfl, wx1_1⟩ := DataW.trod_int Try.underlying3 hy1_1
  simp only [List.cons.injEq, and_true] at e1_1
  subst e1_1
  have b1_1 := bounds_i64 wx1_1
  obtain ⟨x1Least, e1_2, rfl, wx1_2⟩ := DataW.trod_int Try.underlying3 hy1_2
  simp only [List.cons.injEq, and_true] at e1_2
  subst e1_2
  have b1_2 := bounds_i64 wx1_2
  obtain ⟨x1Most, e1_3, rfl, wx1_3⟩ := DataW.trod_int Try.underlying3 hy1_3
  simp only [List.cons.injEq, and_true] at e1_3
  subst e1_3
  have b1_3 := bounds_i64 wx1_3
  clear hA0 hval0
  refine (walk x0Count x0Sum x0Least x0Most x1Count x1Sum x1Least x1Most W b0_0.1 b0_0.2 b0_1.1 b0_1.2 b0_2.1 b0_2.2 b0_3.1 b0_3.2 b1_0.1 b1_0.2 b1_1.1 b1_1.2 b1_2.1 b1_2.2 b1_3.1 b1_3.2).mono fun e W' ⟨he, bel⟩ => ?_
  subst he
  exact ⟨_, rfl, _, _, _, [], _, [], hW', trodAll_mk1 (shut_bool Try.underlying4 _), (trodAll_cons_mk (Below.trod laidOut (by kernel_rfl) (of_decide_eq_true (by kernel_rfl)) k0 bel lt0) (trodAll_cons_mk (Below.trod laidOut (by kernel_rfl) (of_decide_eq_true (by kernel_rfl)) k1 bel lt1) trodAll_mk0)), rfl, bel.frame _, fun h => by cases h⟩

theorem over : Rows.fnExactMergeAccRow.holds Try.pinned (OpenSpec.ofChange Rows.fnExactMergeAccSpec) :=
  OpenClaim.holds_of_wide 5 Try.f5 rfl rfl rfl rfl rfl rfl rfl ⟨rfl, rfl, rfl, rfl, rfl⟩ rfl rfl rfl rfl rfl (by kernel_rfl) Try.func5 (by kernel_rfl)
    (of_decide_eq_true (by kernel_rfl)) (by unfold Func.isWrapper; first | (rw [if_pos (by decide +kernel)]; kernel_rfl) | (rw [if_neg (by decide +kernel)]; exact ⟨rfl, rfl⟩))
    (fun os started H enc _ => lifted os started H enc)

theorem proved : Rows.FnExactMergeAccSaid := over
#print axioms proved
end Go.Proofs.Ythhcjpbgmloacaa.fnExactMergeAcc
