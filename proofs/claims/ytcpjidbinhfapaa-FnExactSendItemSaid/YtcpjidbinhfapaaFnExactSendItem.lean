/- The law FnExactSendItem answers true at every input and leaves its arguments as they were; no condition. -/
import Derived.Test.YtcpjidbinhfapaaRows
import Derived.WalkKit
import Derived.WalkSpells
import Derived.WalkLawsBesides
import Derived.ProofKit
import Derived.OpenShut
import Derived.ShutString
import Derived.ChangeOld
import Derived.Below
import Derived.Lib.SmallJoins
import Derived.Handy
import Derived.Test.YtcpjidbinhfapaaChL
import Derived.Test.YtcpjidbinhfapaaChJ
import Derived.Test.YtcpjidbinhfapaaRg
import Derived.Test.YtcpjidbinhfapaaTyCellItem
import Derived.Deep.RegionHeld3
namespace Go.Proofs.Ytcpjidbinhfapaa.fnExactSendItem
open Go.ChangeShapes Go.WideShapes Go.ChangeAt Go.RowKit Go.Joins
open Go.ChangeMaps (open_string shut_string)
set_option linter.unusedVariables false

theorem own : ownKnob Try.prog.godebug = none := by kernel_rfl
theorem laidOut : laidOutB Try.prog = true := by kernel_rfl
theorem cells44 : Try.prog.cellsOf 44 = 3 := by kernel_rfl
theorem cells46 : Try.prog.cellsOf 46 = 2 := by kernel_rfl
set_option maxRecDepth 100000 in
set_option maxHeartbeats 4000000 in
theorem walk (x0Buffers : Int) (x0Credits : Int) (a0_2 : Option Addr) (cap0_2 : Nat) (ls0_2 : List ItemR) (x1Kind : Int) (x1Number : Int) (w : World) (l0_0 : -9223372036854775808 ≤ x0Buffers) (u0_0 : x0Buffers ≤ 9223372036854775807) (l0_1 : -9223372036854775808 ≤ x0Credits) (u0_1 : x0Credits ≤ 9223372036854775807) (m0_2 : ls0_2.length ≤ maxLen) (w0_2 : RowA ItemR.enc 2 w a0_2 ls0_2) (l1_0 : -9223372036854775808 ≤ x1Kind) (u1_0 : x1Kind ≤ 9223372036854775807) (l1_1 : -9223372036854775808 ≤ x1Number) (u1_1 : x1Number ≤ 9223372036854775807) :
    Calls Try.prog 12 #[.agg #[.int .i64 x0Buffers, .int .i64 x0Credits, .slice a0_2 ls0_2.length cap0_2], .agg #[.int .i64 x1Kind, .int .i64 x1Number]] w fun e w' => e = .returned (.bool true) ∧ Below w.heap.size w w' := by
  have hl2 := m0_2
  by_cases hlen : ls0_2.length ≤ 1048576
  · have ha2 : Row ItemR.enc 2 w a0_2 ls0_2 := ⟨by omega, w0_2⟩
    clear hl2 w0_2 m0_2
    have P_0 := (Bo.made w #[.int .i64 x0Buffers, .int .i64 x0Credits, .slice a0_2 ls0_2.length cap0_2] 44).keep (alloc_below _ (.cells #[.int .i64 x1Kind, .int .i64 x1Number] 46))
    have Q_0 := Bo.made (w.alloc (.cells #[.int .i64 x0Buffers, .int .i64 x0Credits, .slice a0_2 ls0_2.length cap0_2] 44)) #[.int .i64 x1Kind, .int .i64 x1Number] 46
    simp only [World.size_alloc] at Q_0
    have B0 : Below w.heap.size w ((w.alloc (.cells #[.int .i64 x0Buffers, .int .i64 x0Credits, .slice a0_2 ls0_2.length cap0_2] 44)).alloc (.cells #[.int .i64 x1Kind, .int .i64 x1Number] 46)) := ((Below.refl _ _).alloc (Nat.le_refl _) _).alloc (by simp) _
    have zgP : w.heap.size + 1 < ((w.alloc (.cells #[.int .i64 x0Buffers, .int .i64 x0Credits, .slice a0_2 ls0_2.length cap0_2] 44)).alloc (.cells #[.int .i64 x1Kind, .int .i64 x1Number] 46)).heap.size := by simp
    have pP0 := P_0.1 0 _ rfl
    have pP1 := P_0.1 1 _ rfl
    have pP2 := P_0.1 2 _ rfl
    have plP := P_0.2
    have pQ0 := Q_0.1 0 _ rfl
    have pQ1 := Q_0.1 1 _ rfl
    have plQ := Q_0.2
    go_enter Try.func12, Try.ntmps12
    go_wp2_with fail
    clear pP0 pP1 pP2 plP
    clear pQ0 pQ1 plQ
    generalize ((w.alloc (.cells #[.int .i64 x0Buffers, .int .i64 x0Credits, .slice a0_2 ls0_2.length cap0_2] 44)).alloc (.cells #[.int .i64 x1Kind, .int .i64 x1Number] 46)) = u0 at *
    refine (szChannel_ok x0Buffers x0Credits a0_2 ls0_2.length cap0_2 1048576 _ (by omega) (by omega)).mono ?_
    rintro e u1 ⟨rfl, b⟩
    have B1 := B0.trans (b.mono B0.size)
    have z1 := b.size
    have P_1 := P_0.keep b
    have Q_1 := Q_0.keep b
    clear P_0 Q_0 b
    have pP0 := P_1.1 0 _ rfl
    have pP1 := P_1.1 1 _ rfl
    have pP2 := P_1.1 2 _ rfl
    have plP := P_1.2
    have pQ0 := Q_1.1 0 _ rfl
    have pQ1 := Q_1.1 1 _ rfl
    have plQ := Q_1.2
    go_wp2_with fail
    go_cut [6, 7] (fun s6 s7 wx => ∃ (G : Nat) (Aw1 : Option Addr) (cw1 : Nat), s6 = .pointer (some ⟨G, 0, none⟩) ∧ s7 = .bool (sd x0Buffers x0Credits ls0_2 (⟨x1Kind, x1Number⟩ : ItemR)).2.2.2 ∧ Mid ItemR.enc 2 51 u1 wx G (.int .i64 (sd x0Buffers x0Credits ls0_2 (⟨x1Kind, x1Number⟩ : ItemR)).1) (.int .i64 (sd x0Buffers x0Credits ls0_2 (⟨x1Kind, x1Number⟩ : ItemR)).2.1) (.slice Aw1 (sd x0Buffers x0Credits ls0_2 (⟨x1Kind, x1Number⟩ : ItemR)).2.2.1.length cw1) (sd x0Buffers x0Credits ls0_2 (⟨x1Kind, x1Number⟩ : ItemR)).2.2.1)
    case first =>
      have yy : u1.heap.size ≤ u1.heap.size := Nat.le_refl _
      have KK : Below u1.heap.size u1 u1 := Below.refl _ _
      go_region_held3 (fun w' => w'.cell? ⟨w.heap.size, 0, none⟩ = some (.int .i64 x0Buffers) ∧ w'.cell? ⟨w.heap.size, 1, none⟩ = some (.int .i64 x0Credits) ∧ w'.cell? ⟨w.heap.size, 2, none⟩ = some (.slice a0_2 ls0_2.length cap0_2) ∧ w'.cell? ⟨w.heap.size + 1, 0, none⟩ = some (.int .i64 x1Kind) ∧ w'.cell? ⟨w.heap.size + 1, 1, none⟩ = some (.int .i64 x1Number) ∧ u1.heap.size ≤ w'.heap.size ∧ Below u1.heap.size u1 w') (((repeat' apply And.intro) <;> first | (with_reducible assumption) | (simp only [World.cell?_drew]; with_reducible assumption) | (simp only [World.size_drew]; with_reducible assumption) | (exact Below.drew (by with_reducible assumption)) | (go_keep; done) | (simp [go_sem, *]; done) | (simp [World.setCell]; omega) | ((repeat (refine Below.setCell ?_ (by first | (simp; done) | (simp; omega)) _)); with_reducible assumption) | go_grown)) (first | (go_at_call 38; go_split_ands; refine (toChannel_any x0Buffers x0Credits a0_2 cap0_2 ls0_2 _ (ha2.keep (B1.trans (Below.mono (by with_reducible assumption) B1.size)))).mono ?_; rintro e v1 ⟨As1, cs1, rfl, qs1, b1_r⟩; have z1_r : u1.heap.size ≤ v1.heap.size := Nat.le_trans (by with_reducible assumption) b1_r.size; have K1_r : Below u1.heap.size u1 v1 := Below.trans (by with_reducible assumption) (b1_r.mono (by with_reducible assumption)); have sP0_1 : v1.cell? ⟨w.heap.size, 0, none⟩ = some (.int .i64 x0Buffers) := (K1_r.cell plP).trans pP0; have sP1_1 : v1.cell? ⟨w.heap.size, 1, none⟩ = some (.int .i64 x0Credits) := (K1_r.cell plP).trans pP1; have sP2_1 : v1.cell? ⟨w.heap.size, 2, none⟩ = some (.slice a0_2 ls0_2.length cap0_2) := (K1_r.cell plP).trans pP2; have sQ0_1 : v1.cell? ⟨w.heap.size + 1, 0, none⟩ = some (.int .i64 x1Kind) := (K1_r.cell plQ).trans pQ0; have sQ1_1 : v1.cell? ⟨w.heap.size + 1, 1, none⟩ = some (.int .i64 x1Number) := (K1_r.cell plQ).trans pQ1; (first | ((first | (have hNn := made3d b1_r; have hq := made3d_lt b1_r) | (have hNn := made3 b1_r; have hq := made3_lt b1_r))) | (have hNn := Bx.keep hNn b1_r; have hq := keep_lt (by with_reducible assumption) b1_r) | skip); (first | (have hNx := hNn; obtain ⟨n0, n1, n2, nf, nl⟩ := hNx; (try simp only [World.size_drew] at n0 n1 n2 nf nl)) | skip)) | (go_at_call 39; go_split_ands; refine (toItem_any x1Kind x1Number _).mono ?_; rintro e v2 ⟨rfl, b2_r⟩; have z2_r : u1.heap.size ≤ v2.heap.size := Nat.le_trans (by with_reducible assumption) b2_r.size; have K2_r : Below u1.heap.size u1 v2 := Below.trans (by with_reducible assumption) (b2_r.mono (by with_reducible assumption)); have sP0_2 : v2.cell? ⟨w.heap.size, 0, none⟩ = some (.int .i64 x0Buffers) := (K2_r.cell plP).trans pP0; have sP1_2 : v2.cell? ⟨w.heap.size, 1, none⟩ = some (.int .i64 x0Credits) := (K2_r.cell plP).trans pP1; have sP2_2 : v2.cell? ⟨w.heap.size, 2, none⟩ = some (.slice a0_2 ls0_2.length cap0_2) := (K2_r.cell plP).trans pP2; have sQ0_2 : v2.cell? ⟨w.heap.size + 1, 0, none⟩ = some (.int .i64 x1Kind) := (K2_r.cell plQ).trans pQ0; have sQ1_2 : v2.cell? ⟨w.heap.size + 1, 1, none⟩ = some (.int .i64 x1Number) := (K2_r.cell plQ).trans pQ1; (first | ((first | (have hNn := made3d b2_r; have hq := made3d_lt b2_r) | (have hNn := made3 b2_r; have hq := made3_lt b2_r))) | (have hNn := Bx.keep hNn b2_r; have hq := keep_lt (by with_reducible assumption) b2_r) | skip); (first | (have hNx := hNn; obtain ⟨n0, n1, n2, nf, nl⟩ := hNx; (try simp only [World.size_drew] at n0 n1 n2 nf nl)) | skip); (first | have qs1 := Own.keep qs1 b2_r | have qs1 := Own.keep (Own.keep qs1 (alloc_below _ _)) b2_r | skip)) | (go_at_call 37; go_split_ands; (first | refine (specSd_any x0Buffers x0Credits As1 cs1 (ls0_2) (⟨x1Kind, x1Number⟩ : ItemR) _ (qs1.row ItemR.enc_len)).mono ?_ | refine (specSd_any x0Buffers x0Credits As1 cs1 (ls0_2) (⟨x1Kind, x1Number⟩ : ItemR) _ ((Own.keep qs1 (alloc_below _ _)).row ItemR.enc_len)).mono ?_); rintro e v3 ⟨Aw1, cw1, rfl, qw1, b3_r⟩; have z3_r : u1.heap.size ≤ v3.heap.size := Nat.le_trans (by with_reducible assumption) b3_r.size; have K3_r : Below u1.heap.size u1 v3 := Below.trans (by with_reducible assumption) (b3_r.mono (by with_reducible assumption)); have sP0_3 : v3.cell? ⟨w.heap.size, 0, none⟩ = some (.int .i64 x0Buffers) := (K3_r.cell plP).trans pP0; have sP1_3 : v3.cell? ⟨w.heap.size, 1, none⟩ = some (.int .i64 x0Credits) := (K3_r.cell plP).trans pP1; have sP2_3 : v3.cell? ⟨w.heap.size, 2, none⟩ = some (.slice a0_2 ls0_2.length cap0_2) := (K3_r.cell plP).trans pP2; have sQ0_3 : v3.cell? ⟨w.heap.size + 1, 0, none⟩ = some (.int .i64 x1Kind) := (K3_r.cell plQ).trans pQ0; have sQ1_3 : v3.cell? ⟨w.heap.size + 1, 1, none⟩ = some (.int .i64 x1Number) := (K3_r.cell plQ).trans pQ1; (first | ((first | (have hNn := made3d b3_r; have hq := made3d_lt b3_r) | (have hNn := made3 b3_r; have hq := made3_lt b3_r))) | (have hNn := Bx.keep hNn b3_r; have hq := keep_lt (by with_reducible assumption) b3_r) | skip); (first | (have hNx := hNn; obtain ⟨n0, n1, n2, nf, nl⟩ := hNx; (try simp only [World.size_drew] at n0 n1 n2 nf nl)) | skip)))
      all_goals
        go_wp2_with fail
        go_meet
        first
          | exact ⟨_, Aw1, cw1, rfl, rfl, midA2 _ _ _ K3_r qw1 (by first | with_reducible assumption | (simp; omega))⟩
          | exact ⟨_, Aw1, cw1, rfl, rfl, midB2 _ _ K3_r hNn (by first | exact Nat.le_refl _ | with_reducible assumption | omega | (simp; omega)) qw1 hq⟩
    case rest =>
      obtain ⟨GW, Aw1, cw1, rfl, rfl, HM⟩ := hcut
      clear pP0 pP1 pP2 plP
      clear pQ0 pQ1 plQ
      generalize wc = u2 at *
      obtain ⟨b, N0, zGW, qw1, qnw⟩ := HM
      have zlW := N0.2.2.2.2
      have B2 := B1.trans (b.mono B1.size)
      have z2 := b.size
      have P_2 := P_1.keep b
      have Q_2 := Q_1.keep b
      clear P_1 Q_1 b
      have W_2 := Bo.ofBx N0
      clear N0
      have ow1_2 := qw1
      clear qw1
      have loow1 : ∀ g, Value.ownBlock (.slice Aw1 ((sd x0Buffers x0Credits ls0_2 (⟨x1Kind, x1Number⟩ : ItemR)).2.2.1).length cw1) = some g → u1.heap.size ≤ g := fun g hg => (ow1_2.lt g hg).1
      have hiow1 : ∀ g, Value.ownBlock (.slice Aw1 ((sd x0Buffers x0Credits ls0_2 (⟨x1Kind, x1Number⟩ : ItemR)).2.2.1).length cw1) = some g → g < u2.heap.size := fun g hg => (ow1_2.lt g hg).2
      have pP0 := P_2.1 0 _ rfl
      have pP1 := P_2.1 1 _ rfl
      have pP2 := P_2.1 2 _ rfl
      have plP := P_2.2
      go_wp2_with fail
      clear pP0 pP1 pP2 plP
      refine (toChannel_any x0Buffers x0Credits a0_2 cap0_2 ls0_2 _ (ha2.keep B2)).mono ?_
      rintro e u3 ⟨Ax1, cx1, rfl, qx1, b⟩
      have B3 := B2.trans (b.mono B2.size)
      have z3 := b.size
      have P_3 := P_2.keep b
      have Q_3 := Q_2.keep b
      have W_3 := W_2.keep b
      have ow1_3 := ow1_2.keep b
      clear P_2 Q_2 W_2 ow1_2 b
      have ox1_3 := qx1
      clear qx1
      have loox1 : ∀ g, Value.ownBlock (.slice Ax1 (ls0_2).length cx1) = some g → u2.heap.size ≤ g := fun g hg => (ox1_3.lt g hg).1
      have hiox1 : ∀ g, Value.ownBlock (.slice Ax1 (ls0_2).length cx1) = some g → g < u3.heap.size := fun g hg => (ox1_3.lt g hg).2
      have bv : Below u3.heap.size u3 (u3.alloc (.cells #[.int .i64 x0Buffers, .int .i64 x0Credits, .slice Ax1 (ls0_2).length cx1] 38)) := (Below.refl _ _).alloc (Nat.le_refl _) _
      have nb := Bo.made u3 #[.int .i64 x0Buffers, .int .i64 x0Credits, .slice Ax1 (ls0_2).length cx1] 38
      have zgX : u3.heap.size < (u3.alloc (.cells #[.int .i64 x0Buffers, .int .i64 x0Credits, .slice Ax1 (ls0_2).length cx1] 38)).heap.size := by simp
      have B4 := B3.trans (bv.mono B3.size)
      have z4 := bv.size
      have P_4 := P_3.keep bv
      have Q_4 := Q_3.keep bv
      have W_4 := W_3.keep bv
      have ow1_4 := ow1_3.keep bv
      have ox1_4 := ox1_3.keep bv
      clear P_3 Q_3 W_3 ow1_3 ox1_3 bv
      have X_4 := nb
      clear nb
      have pX0 := X_4.1 0 _ rfl
      have pX1 := X_4.1 1 _ rfl
      have pX2 := X_4.1 2 _ rfl
      have plX := X_4.2
      have pQ0 := Q_4.1 0 _ rfl
      have pQ1 := Q_4.1 1 _ rfl
      have plQ := Q_4.2
      go_wp2_with fail
      clear pX0 pX1 pX2 plX
      clear pQ0 pQ1 plQ
      generalize (u3.alloc (.cells #[.int .i64 x0Buffers, .int .i64 x0Credits, .slice Ax1 (ls0_2).length cx1] 38)) = u4 at *
      have pX0 := X_4.1 0 _ rfl
      have pX1 := X_4.1 1 _ rfl
      have pX2 := X_4.1 2 _ rfl
      have plX := X_4.2
      have pQ0 := Q_4.1 0 _ rfl
      have pQ1 := Q_4.1 1 _ rfl
      have plQ := Q_4.2
      go_wp2_with fail
      go_cut [9, 10] (fun s6 s7 wx => ∃ (G : Nat) (Ag1 : Option Addr) (cg1 : Nat), s6 = .pointer (some ⟨G, 0, none⟩) ∧ s7 = .bool (sd x0Buffers x0Credits ls0_2 (⟨x1Kind, x1Number⟩ : ItemR)).2.2.2 ∧ Mid ItemR.enc 2 51 u4 wx G (.int .i64 (sd x0Buffers x0Credits ls0_2 (⟨x1Kind, x1Number⟩ : ItemR)).1) (.int .i64 (sd x0Buffers x0Credits ls0_2 (⟨x1Kind, x1Number⟩ : ItemR)).2.1) (.slice Ag1 (sd x0Buffers x0Credits ls0_2 (⟨x1Kind, x1Number⟩ : ItemR)).2.2.1.length cg1) (sd x0Buffers x0Credits ls0_2 (⟨x1Kind, x1Number⟩ : ItemR)).2.2.1)
      case first =>
        have yy : u4.heap.size ≤ u4.heap.size := Nat.le_refl _
        have KK : Below u4.heap.size u4 u4 := Below.refl _ _
        go_region_held3 (fun w' => w'.cell? ⟨u3.heap.size, 0, none⟩ = some (.int .i64 x0Buffers) ∧ w'.cell? ⟨u3.heap.size, 1, none⟩ = some (.int .i64 x0Credits) ∧ w'.cell? ⟨u3.heap.size, 2, none⟩ = some (.slice Ax1 (ls0_2).length cx1) ∧ w'.cell? ⟨w.heap.size + 1, 0, none⟩ = some (.int .i64 x1Kind) ∧ w'.cell? ⟨w.heap.size + 1, 1, none⟩ = some (.int .i64 x1Number) ∧ u4.heap.size ≤ w'.heap.size ∧ Below u4.heap.size u4 w') (((repeat' apply And.intro) <;> first | (with_reducible assumption) | (simp only [World.cell?_drew]; with_reducible assumption) | (simp only [World.size_drew]; with_reducible assumption) | (exact Below.drew (by with_reducible assumption)) | (go_keep; done) | (simp [go_sem, *]; done) | (simp [World.setCell]; omega) | ((repeat (refine Below.setCell ?_ (by first | (simp; done) | (simp; omega)) _)); with_reducible assumption) | go_grown)) (first | (go_at_call 39; go_split_ands; refine (toItem_any x1Kind x1Number _).mono ?_; rintro e v1 ⟨rfl, b1_r⟩; have z1_r : u4.heap.size ≤ v1.heap.size := Nat.le_trans (by with_reducible assumption) b1_r.size; have K1_r : Below u4.heap.size u4 v1 := Below.trans (by with_reducible assumption) (b1_r.mono (by with_reducible assumption)); have sX0_1 : v1.cell? ⟨u3.heap.size, 0, none⟩ = some (.int .i64 x0Buffers) := (K1_r.cell plX).trans pX0; have sX1_1 : v1.cell? ⟨u3.heap.size, 1, none⟩ = some (.int .i64 x0Credits) := (K1_r.cell plX).trans pX1; have sX2_1 : v1.cell? ⟨u3.heap.size, 2, none⟩ = some (.slice Ax1 (ls0_2).length cx1) := (K1_r.cell plX).trans pX2; have sQ0_1 : v1.cell? ⟨w.heap.size + 1, 0, none⟩ = some (.int .i64 x1Kind) := (K1_r.cell plQ).trans pQ0; have sQ1_1 : v1.cell? ⟨w.heap.size + 1, 1, none⟩ = some (.int .i64 x1Number) := (K1_r.cell plQ).trans pQ1; (first | ((first | (have hNn := made3d b1_r; have hq := made3d_lt b1_r) | (have hNn := made3 b1_r; have hq := made3_lt b1_r))) | (have hNn := Bx.keep hNn b1_r; have hq := keep_lt (by with_reducible assumption) b1_r) | skip); (first | (have hNx := hNn; obtain ⟨n0, n1, n2, nf, nl⟩ := hNx; (try simp only [World.size_drew] at n0 n1 n2 nf nl)) | skip)) | (go_at_call 40; go_split_ands; (first | refine (implSd_any x0Buffers x0Credits Ax1 cx1 (ls0_2) (⟨x1Kind, x1Number⟩ : ItemR) _ ((ox1_4.keep (by with_reducible assumption)).row ItemR.enc_len)).mono ?_); rintro e v2 ⟨Ag1, cg1, rfl, qg1, b2_r⟩; have z2_r : u4.heap.size ≤ v2.heap.size := Nat.le_trans (by with_reducible assumption) b2_r.size; have K2_r : Below u4.heap.size u4 v2 := Below.trans (by with_reducible assumption) (b2_r.mono (by with_reducible assumption)); have sX0_2 : v2.cell? ⟨u3.heap.size, 0, none⟩ = some (.int .i64 x0Buffers) := (K2_r.cell plX).trans pX0; have sX1_2 : v2.cell? ⟨u3.heap.size, 1, none⟩ = some (.int .i64 x0Credits) := (K2_r.cell plX).trans pX1; have sX2_2 : v2.cell? ⟨u3.heap.size, 2, none⟩ = some (.slice Ax1 (ls0_2).length cx1) := (K2_r.cell plX).trans pX2; have sQ0_2 : v2.cell? ⟨w.heap.size + 1, 0, none⟩ = some (.int .i64 x1Kind) := (K2_r.cell plQ).trans pQ0; have sQ1_2 : v2.cell? ⟨w.heap.size + 1, 1, none⟩ = some (.int .i64 x1Number) := (K2_r.cell plQ).trans pQ1; (first | ((first | (have hNn := made3d b2_r; have hq := made3d_lt b2_r) | (have hNn := made3 b2_r; have hq := made3_lt b2_r))) | (have hNn := Bx.keep hNn b2_r; have hq := keep_lt (by with_reducible assumption) b2_r) | skip); (first | (have hNx := hNn; obtain ⟨n0, n1, n2, nf, nl⟩ := hNx; (try simp only [World.size_drew] at n0 n1 n2 nf nl)) | skip)))
        all_goals
          go_wp2_with fail
          go_meet
          first
            | exact ⟨_, Ag1, cg1, rfl, rfl, midA2 _ _ _ K2_r qg1 (by first | with_reducible assumption | (simp; omega))⟩
            | exact ⟨_, Ag1, cg1, rfl, rfl, midB2 _ _ K2_r hNn (by first | exact Nat.le_refl _ | with_reducible assumption | omega | (simp; omega)) qg1 hq⟩
      case rest =>
        obtain ⟨GG, Ag1, cg1, rfl, rfl, HM⟩ := hcut
        clear pX0 pX1 pX2 plX
        clear pQ0 pQ1 plQ
        generalize wc = u5 at *
        obtain ⟨b, N0, zGG, qg1, qng⟩ := HM
        have zlG := N0.2.2.2.2
        have B5 := B4.trans (b.mono B4.size)
        have z5 := b.size
        have P_5 := P_4.keep b
        have Q_5 := Q_4.keep b
        have W_5 := W_4.keep b
        have X_5 := X_4.keep b
        have ow1_5 := ow1_4.keep b
        have ox1_5 := ox1_4.keep b
        clear P_4 Q_4 W_4 X_4 ow1_4 ox1_4 b
        have G_5 := Bo.ofBx N0
        clear N0
        have og1_5 := qg1
        clear qg1
        have loog1 : ∀ g, Value.ownBlock (.slice Ag1 ((sd x0Buffers x0Credits ls0_2 (⟨x1Kind, x1Number⟩ : ItemR)).2.2.1).length cg1) = some g → u4.heap.size ≤ g := fun g hg => (og1_5.lt g hg).1
        have hiog1 : ∀ g, Value.ownBlock (.slice Ag1 ((sd x0Buffers x0Credits ls0_2 (⟨x1Kind, x1Number⟩ : ItemR)).2.2.1).length cg1) = some g → g < u5.heap.size := fun g hg => (og1_5.lt g hg).2
        have pG0 := G_5.1 0 _ rfl
        have pG1 := G_5.1 1 _ rfl
        have pG2 := G_5.1 2 _ rfl
        have plG := G_5.2
        have pW0 := W_5.1 0 _ rfl
        have pW1 := W_5.1 1 _ rfl
        have pW2 := W_5.1 2 _ rfl
        have plW := W_5.2
        go_wp2_with fail
        clear pG0 pG1 pG2 plG
        clear pW0 pW1 pW2 plW
        refine (eqChannel_same (sd x0Buffers x0Credits ls0_2 (⟨x1Kind, x1Number⟩ : ItemR)).1 (sd x0Buffers x0Credits ls0_2 (⟨x1Kind, x1Number⟩ : ItemR)).2.1 Ag1 cg1 Aw1 cw1 (sd x0Buffers x0Credits ls0_2 (⟨x1Kind, x1Number⟩ : ItemR)).2.2.1 _ (og1_5.row ItemR.enc_len) (ow1_5.row ItemR.enc_len)).mono ?_
        rintro e u6 ⟨rfl, b⟩
        have B6 := B5.trans (b.mono B5.size)
        have z6 := b.size
        have P_6 := P_5.keep b
        have Q_6 := Q_5.keep b
        have W_6 := W_5.keep b
        have X_6 := X_5.keep b
        have G_6 := G_5.keep b
        have ow1_6 := ow1_5.keep b
        have ox1_6 := ox1_5.keep b
        have og1_6 := og1_5.keep b
        clear P_5 Q_5 W_5 X_5 G_5 ow1_5 ox1_5 og1_5 b
        have pX0 := X_6.1 0 _ rfl
        have pX1 := X_6.1 1 _ rfl
        have pX2 := X_6.1 2 _ rfl
        have plX := X_6.2
        have pP0 := P_6.1 0 _ rfl
        have pP1 := P_6.1 1 _ rfl
        have pP2 := P_6.1 2 _ rfl
        have plP := P_6.2
        go_wp2_with fail
        have yy : u6.heap.size ≤ u6.heap.size := Nat.le_refl _
        go_region_held3 (fun w' => w'.cell? ⟨u3.heap.size, 0, none⟩ = some (.int .i64 x0Buffers) ∧ w'.cell? ⟨u3.heap.size, 1, none⟩ = some (.int .i64 x0Credits) ∧ w'.cell? ⟨u3.heap.size, 2, none⟩ = some (.slice Ax1 (ls0_2).length cx1) ∧ w'.cell? ⟨w.heap.size, 0, none⟩ = some (.int .i64 x0Buffers) ∧ w'.cell? ⟨w.heap.size, 1, none⟩ = some (.int .i64 x0Credits) ∧ w'.cell? ⟨w.heap.size, 2, none⟩ = some (.slice a0_2 ls0_2.length cap0_2) ∧ u6.heap.size ≤ w'.heap.size ∧ Below w.heap.size w w') (((repeat' apply And.intro) <;> first | assumption | (simp only [World.cell?_drew]; assumption) | (simp only [World.size_drew]; assumption) | (exact Below.drew (by assumption)))) (first | (go_at_call 38; go_split_ands; refine (toChannel_any x0Buffers x0Credits a0_2 cap0_2 ls0_2 _ (ha2.keep (by assumption))).mono ?_; rintro e u7 ⟨At1, ct1, rfl, qt1, b7⟩; have z7 := b7.size; (try simp only [World.size_drew] at z7); have y7 : u6.heap.size ≤ u7.heap.size := (by omega); have K7 : Below w.heap.size w u7 := Below.trans (by assumption) (b7.mono (by first | omega | (simp; omega))); have sX0_7 : u7.cell? ⟨u3.heap.size, 0, none⟩ = some (.int .i64 x0Buffers) := (b7.cell (by first | omega | (simp; omega))).trans (by assumption); have sX1_7 : u7.cell? ⟨u3.heap.size, 1, none⟩ = some (.int .i64 x0Credits) := (b7.cell (by first | omega | (simp; omega))).trans (by assumption); have sX2_7 : u7.cell? ⟨u3.heap.size, 2, none⟩ = some (.slice Ax1 (ls0_2).length cx1) := (b7.cell (by first | omega | (simp; omega))).trans (by assumption); have sP0_7 : u7.cell? ⟨w.heap.size, 0, none⟩ = some (.int .i64 x0Buffers) := (b7.cell (by first | omega | (simp; omega))).trans (by assumption); have sP1_7 : u7.cell? ⟨w.heap.size, 1, none⟩ = some (.int .i64 x0Credits) := (b7.cell (by first | omega | (simp; omega))).trans (by assumption); have sP2_7 : u7.cell? ⟨w.heap.size, 2, none⟩ = some (.slice a0_2 ls0_2.length cap0_2) := (b7.cell (by first | omega | (simp; omega))).trans (by assumption)) | (go_at_call 33; go_split_ands; refine (eqChannel_same x0Buffers x0Credits Ax1 cx1 At1 ct1 ls0_2 _ (((ox1_6.keep (Below.refl _ _).drew).keep b7).row ItemR.enc_len) (qt1.row ItemR.enc_len)).mono ?_; rintro e u8 ⟨rfl, b8⟩; have z8 := b8.size; (try simp only [World.size_drew] at z8); have y8 : u6.heap.size ≤ u8.heap.size := (by omega); have K8 : Below w.heap.size w u8 := Below.trans (by assumption) (b8.mono (by first | omega | (simp; omega))); have sX0_8 : u8.cell? ⟨u3.heap.size, 0, none⟩ = some (.int .i64 x0Buffers) := (b8.cell (by first | omega | (simp; omega))).trans (by assumption); have sX1_8 : u8.cell? ⟨u3.heap.size, 1, none⟩ = some (.int .i64 x0Credits) := (b8.cell (by first | omega | (simp; omega))).trans (by assumption); have sX2_8 : u8.cell? ⟨u3.heap.size, 2, none⟩ = some (.slice Ax1 (ls0_2).length cx1) := (b8.cell (by first | omega | (simp; omega))).trans (by assumption); have sP0_8 : u8.cell? ⟨w.heap.size, 0, none⟩ = some (.int .i64 x0Buffers) := (b8.cell (by first | omega | (simp; omega))).trans (by assumption); have sP1_8 : u8.cell? ⟨w.heap.size, 1, none⟩ = some (.int .i64 x0Credits) := (b8.cell (by first | omega | (simp; omega))).trans (by assumption); have sP2_8 : u8.cell? ⟨w.heap.size, 2, none⟩ = some (.slice a0_2 ls0_2.length cap0_2) := (b8.cell (by first | omega | (simp; omega))).trans (by assumption)))
        clear yy sX0_7 sX0_8 sX1_7 sX1_8 sX2_7 sX2_8 sP0_7 sP0_8 sP1_7 sP1_8 sP2_7 sP2_8 K7 y7 K8 y8 qt1
        clear pX0 pX1 pX2 plX
        clear pP0 pP1 pP2 plP
        have bd : Below u6.heap.size u6 u8 := ((Below.refl _ _).drew.trans (b7.mono (by simp))).trans (b8.mono (by omega))
        clear b7 b8 z7 z8
        have B8 := B6.trans (bd.mono B6.size)
        have z8 := bd.size
        have P_8 := P_6.keep bd
        have Q_8 := Q_6.keep bd
        have W_8 := W_6.keep bd
        have X_8 := X_6.keep bd
        have G_8 := G_6.keep bd
        have ow1_8 := ow1_6.keep bd
        have ox1_8 := ox1_6.keep bd
        have og1_8 := og1_6.keep bd
        clear P_6 Q_6 W_6 X_6 G_6 ow1_6 ox1_6 og1_6 bd
        have pX0 := X_8.1 0 _ rfl
        have pX1 := X_8.1 1 _ rfl
        have pX2 := X_8.1 2 _ rfl
        have plX := X_8.2
        go_wp2_with fail
        clear pX0 pX1 pX2 plX
        refine (markChannel_any x0Buffers x0Credits Ax1 (ls0_2).length cx1 (1) _ _ _ ox1_8.2 ox1_8.1 (by omega) (by omega)).mono ?_
        rintro e u9 ⟨rfl, mk1, wx, b, g1⟩
        have hFx1 := ox1_8.1
        have zb := b.size
        have z9 : u8.heap.size ≤ u9.heap.size := by have := g1.size; omega
        have Bx0 := B8.trans (b.mono B8.size)
        have B9 := Bx0.trans (below_of_gb (B0 := w.heap.size) g1 Bx0.size (fun g hg => by have := loox1 g hg; have := B2.size; omega))
        clear Bx0 ox1_8
        have ow1_9 := (ow1_8.keep b).far g1 (fun g g' e1 e2 => by have h1 := hiow1 g e1; have h2 := loox1 g' e2; omega)
        clear ow1_8
        have og1_9 := (og1_8.keep b).far g1 (fun g g' e1 e2 => by have h1 := loog1 g e1; have h2 := hiox1 g' e2; omega)
        clear og1_8
        have P_9 := (P_8.keep b).far g1 (fun e => by have h1 := loox1 _ e.symm; have h2 := hiox1 _ e.symm; omega)
        clear P_8
        have Q_9 := (Q_8.keep b).far g1 (fun e => by have h1 := loox1 _ e.symm; have h2 := hiox1 _ e.symm; omega)
        clear Q_8
        have W_9 := (W_8.keep b).far g1 (fun e => by have h1 := loox1 _ e.symm; have h2 := hiox1 _ e.symm; omega)
        clear W_8
        have X_9 := (X_8.keep b).far g1 (fun e => by have h1 := loox1 _ e.symm; have h2 := hiox1 _ e.symm; omega)
        clear X_8
        have G_9 := (G_8.keep b).far g1 (fun e => by have h1 := loox1 _ e.symm; have h2 := hiox1 _ e.symm; omega)
        clear G_8
        clear b g1
        have pG0 := G_9.1 0 _ rfl
        have pG1 := G_9.1 1 _ rfl
        have pG2 := G_9.1 2 _ rfl
        have plG := G_9.2
        have pW0 := W_9.1 0 _ rfl
        have pW1 := W_9.1 1 _ rfl
        have pW2 := W_9.1 2 _ rfl
        have plW := W_9.2
        go_wp2_with fail
        clear pG0 pG1 pG2 plG
        clear pW0 pW1 pW2 plW
        refine (eqChannel_same (sd x0Buffers x0Credits ls0_2 (⟨x1Kind, x1Number⟩ : ItemR)).1 (sd x0Buffers x0Credits ls0_2 (⟨x1Kind, x1Number⟩ : ItemR)).2.1 Ag1 cg1 Aw1 cw1 (sd x0Buffers x0Credits ls0_2 (⟨x1Kind, x1Number⟩ : ItemR)).2.2.1 _ (og1_9.row ItemR.enc_len) (ow1_9.row ItemR.enc_len)).mono ?_
        rintro e u10 ⟨rfl, b⟩
        have B10 := B9.trans (b.mono B9.size)
        have z10 := b.size
        have P_10 := P_9.keep b
        have Q_10 := Q_9.keep b
        have W_10 := W_9.keep b
        have X_10 := X_9.keep b
        have G_10 := G_9.keep b
        have ow1_10 := ow1_9.keep b
        have og1_10 := og1_9.keep b
        clear P_9 Q_9 W_9 X_9 G_9 ow1_9 og1_9 b
        have pG0 := G_10.1 0 _ rfl
        have pG1 := G_10.1 1 _ rfl
        have pG2 := G_10.1 2 _ rfl
        have plG := G_10.2
        go_wp2_with fail
        clear pG0 pG1 pG2 plG
        refine (markChannel_any (sd x0Buffers x0Credits ls0_2 (⟨x1Kind, x1Number⟩ : ItemR)).1 (sd x0Buffers x0Credits ls0_2 (⟨x1Kind, x1Number⟩ : ItemR)).2.1 Ag1 ((sd x0Buffers x0Credits ls0_2 (⟨x1Kind, x1Number⟩ : ItemR)).2.2.1).length cg1 (1) _ _ _ og1_10.2 og1_10.1 (by omega) (by omega)).mono ?_
        rintro e u11 ⟨rfl, mk1, wx, b, g1⟩
        have hFg1 := og1_10.1
        have zb := b.size
        have z11 : u10.heap.size ≤ u11.heap.size := by have := g1.size; omega
        have Bx0 := B10.trans (b.mono B10.size)
        have B11 := Bx0.trans (below_of_gb (B0 := w.heap.size) g1 Bx0.size (fun g hg => by have := loog1 g hg; have := B4.size; omega))
        clear Bx0 og1_10
        have ow1_11 := (ow1_10.keep b).far g1 (fun g g' e1 e2 => by have h1 := hiow1 g e1; have h2 := loog1 g' e2; omega)
        clear ow1_10
        have P_11 := (P_10.keep b).far g1 (fun e => by have h1 := loog1 _ e.symm; have h2 := hiog1 _ e.symm; omega)
        clear P_10
        have Q_11 := (Q_10.keep b).far g1 (fun e => by have h1 := loog1 _ e.symm; have h2 := hiog1 _ e.symm; omega)
        clear Q_10
        have W_11 := (W_10.keep b).far g1 (fun e => by have h1 := loog1 _ e.symm; have h2 := hiog1 _ e.symm; omega)
        clear W_10
        have X_11 := (X_10.keep b).far g1 (fun e => by have h1 := loog1 _ e.symm; have h2 := hiog1 _ e.symm; omega)
        clear X_10
        have G_11 := (G_10.keep b).far g1 (fun e => (qng _ e.symm).2 rfl)
        clear G_10
        clear b g1
        have mg1_11 := mk1
        clear mk1
        have lomg1 := loog1
        have himg1 := hiog1
        have pG0 := G_11.1 0 _ rfl
        have pG1 := G_11.1 1 _ rfl
        have pG2 := G_11.1 2 _ rfl
        have plG := G_11.2
        go_wp2_with fail
        clear pG0 pG1 pG2 plG
        refine (heldChannel_any (sd x0Buffers x0Credits ls0_2 (⟨x1Kind, x1Number⟩ : ItemR)).1 (sd x0Buffers x0Credits ls0_2 (⟨x1Kind, x1Number⟩ : ItemR)).2.1 Ag1 ((sd x0Buffers x0Credits ls0_2 (⟨x1Kind, x1Number⟩ : ItemR)).2.2.1).length cg1 (1) _ _ mg1_11 hFg1 (by omega) (by omega)).mono ?_
        rintro e u12 ⟨rfl, b⟩
        have B12 := B11.trans (b.mono B11.size)
        have z12 := b.size
        have P_12 := P_11.keep b
        have Q_12 := Q_11.keep b
        have W_12 := W_11.keep b
        have X_12 := X_11.keep b
        have G_12 := G_11.keep b
        have ow1_12 := ow1_11.keep b
        have mg1_12 := ownsRow_keep mg1_11 b
        clear P_11 Q_11 W_11 X_11 G_11 ow1_11 mg1_11 b
        have pP0 := P_12.1 0 _ rfl
        have pP1 := P_12.1 1 _ rfl
        have pP2 := P_12.1 2 _ rfl
        have plP := P_12.2
        have pQ0 := Q_12.1 0 _ rfl
        have pQ1 := Q_12.1 1 _ rfl
        have plQ := Q_12.2
        go_wp2_with fail
        go_cut [14, 15] (fun s6 s7 wx => ∃ (G : Nat) (Ah1 : Option Addr) (ch1 : Nat), s6 = .pointer (some ⟨G, 0, none⟩) ∧ s7 = .bool (sd x0Buffers x0Credits ls0_2 (⟨x1Kind, x1Number⟩ : ItemR)).2.2.2 ∧ Mid ItemR.enc 2 51 u12 wx G (.int .i64 (sd x0Buffers x0Credits ls0_2 (⟨x1Kind, x1Number⟩ : ItemR)).1) (.int .i64 (sd x0Buffers x0Credits ls0_2 (⟨x1Kind, x1Number⟩ : ItemR)).2.1) (.slice Ah1 (sd x0Buffers x0Credits ls0_2 (⟨x1Kind, x1Number⟩ : ItemR)).2.2.1.length ch1) (sd x0Buffers x0Credits ls0_2 (⟨x1Kind, x1Number⟩ : ItemR)).2.2.1)
        case first =>
          have yy : u12.heap.size ≤ u12.heap.size := Nat.le_refl _
          have KK : Below u12.heap.size u12 u12 := Below.refl _ _
          go_region_held3 (fun w' => w'.cell? ⟨w.heap.size, 0, none⟩ = some (.int .i64 x0Buffers) ∧ w'.cell? ⟨w.heap.size, 1, none⟩ = some (.int .i64 x0Credits) ∧ w'.cell? ⟨w.heap.size, 2, none⟩ = some (.slice a0_2 ls0_2.length cap0_2) ∧ w'.cell? ⟨w.heap.size + 1, 0, none⟩ = some (.int .i64 x1Kind) ∧ w'.cell? ⟨w.heap.size + 1, 1, none⟩ = some (.int .i64 x1Number) ∧ u12.heap.size ≤ w'.heap.size ∧ Below u12.heap.size u12 w') (((repeat' apply And.intro) <;> first | (with_reducible assumption) | (simp only [World.cell?_drew]; with_reducible assumption) | (simp only [World.size_drew]; with_reducible assumption) | (exact Below.drew (by with_reducible assumption)) | (go_keep; done) | (simp [go_sem, *]; done) | (simp [World.setCell]; omega) | ((repeat (refine Below.setCell ?_ (by first | (simp; done) | (simp; omega)) _)); with_reducible assumption) | go_grown)) (first | (go_at_call 38; go_split_ands; refine (toChannel_any x0Buffers x0Credits a0_2 cap0_2 ls0_2 _ (ha2.keep (B12.trans (Below.mono (by with_reducible assumption) B12.size)))).mono ?_; rintro e v1 ⟨Ay1, cy1, rfl, qy1, b1_r⟩; have z1_r : u12.heap.size ≤ v1.heap.size := Nat.le_trans (by with_reducible assumption) b1_r.size; have K1_r : Below u12.heap.size u12 v1 := Below.trans (by with_reducible assumption) (b1_r.mono (by with_reducible assumption)); have sP0_1 : v1.cell? ⟨w.heap.size, 0, none⟩ = some (.int .i64 x0Buffers) := (K1_r.cell plP).trans pP0; have sP1_1 : v1.cell? ⟨w.heap.size, 1, none⟩ = some (.int .i64 x0Credits) := (K1_r.cell plP).trans pP1; have sP2_1 : v1.cell? ⟨w.heap.size, 2, none⟩ = some (.slice a0_2 ls0_2.length cap0_2) := (K1_r.cell plP).trans pP2; have sQ0_1 : v1.cell? ⟨w.heap.size + 1, 0, none⟩ = some (.int .i64 x1Kind) := (K1_r.cell plQ).trans pQ0; have sQ1_1 : v1.cell? ⟨w.heap.size + 1, 1, none⟩ = some (.int .i64 x1Number) := (K1_r.cell plQ).trans pQ1; (first | ((first | (have hNn := made3d b1_r; have hq := made3d_lt b1_r) | (have hNn := made3 b1_r; have hq := made3_lt b1_r))) | (have hNn := Bx.keep hNn b1_r; have hq := keep_lt (by with_reducible assumption) b1_r) | skip); (first | (have hNx := hNn; obtain ⟨n0, n1, n2, nf, nl⟩ := hNx; (try simp only [World.size_drew] at n0 n1 n2 nf nl)) | skip)) | (go_at_call 39; go_split_ands; refine (toItem_any x1Kind x1Number _).mono ?_; rintro e v2 ⟨rfl, b2_r⟩; have z2_r : u12.heap.size ≤ v2.heap.size := Nat.le_trans (by with_reducible assumption) b2_r.size; have K2_r : Below u12.heap.size u12 v2 := Below.trans (by with_reducible assumption) (b2_r.mono (by with_reducible assumption)); have sP0_2 : v2.cell? ⟨w.heap.size, 0, none⟩ = some (.int .i64 x0Buffers) := (K2_r.cell plP).trans pP0; have sP1_2 : v2.cell? ⟨w.heap.size, 1, none⟩ = some (.int .i64 x0Credits) := (K2_r.cell plP).trans pP1; have sP2_2 : v2.cell? ⟨w.heap.size, 2, none⟩ = some (.slice a0_2 ls0_2.length cap0_2) := (K2_r.cell plP).trans pP2; have sQ0_2 : v2.cell? ⟨w.heap.size + 1, 0, none⟩ = some (.int .i64 x1Kind) := (K2_r.cell plQ).trans pQ0; have sQ1_2 : v2.cell? ⟨w.heap.size + 1, 1, none⟩ = some (.int .i64 x1Number) := (K2_r.cell plQ).trans pQ1; (first | ((first | (have hNn := made3d b2_r; have hq := made3d_lt b2_r) | (have hNn := made3 b2_r; have hq := made3_lt b2_r))) | (have hNn := Bx.keep hNn b2_r; have hq := keep_lt (by with_reducible assumption) b2_r) | skip); (first | (have hNx := hNn; obtain ⟨n0, n1, n2, nf, nl⟩ := hNx; (try simp only [World.size_drew] at n0 n1 n2 nf nl)) | skip); (first | have qy1 := Own.keep qy1 b2_r | have qy1 := Own.keep (Own.keep qy1 (alloc_below _ _)) b2_r | skip)) | (go_at_call 40; go_split_ands; (first | refine (implSd_any x0Buffers x0Credits Ay1 cy1 (ls0_2) (⟨x1Kind, x1Number⟩ : ItemR) _ (qy1.row ItemR.enc_len)).mono ?_ | refine (implSd_any x0Buffers x0Credits Ay1 cy1 (ls0_2) (⟨x1Kind, x1Number⟩ : ItemR) _ ((Own.keep qy1 (alloc_below _ _)).row ItemR.enc_len)).mono ?_); rintro e v3 ⟨Ah1, ch1, rfl, qh1, b3_r⟩; have z3_r : u12.heap.size ≤ v3.heap.size := Nat.le_trans (by with_reducible assumption) b3_r.size; have K3_r : Below u12.heap.size u12 v3 := Below.trans (by with_reducible assumption) (b3_r.mono (by with_reducible assumption)); have sP0_3 : v3.cell? ⟨w.heap.size, 0, none⟩ = some (.int .i64 x0Buffers) := (K3_r.cell plP).trans pP0; have sP1_3 : v3.cell? ⟨w.heap.size, 1, none⟩ = some (.int .i64 x0Credits) := (K3_r.cell plP).trans pP1; have sP2_3 : v3.cell? ⟨w.heap.size, 2, none⟩ = some (.slice a0_2 ls0_2.length cap0_2) := (K3_r.cell plP).trans pP2; have sQ0_3 : v3.cell? ⟨w.heap.size + 1, 0, none⟩ = some (.int .i64 x1Kind) := (K3_r.cell plQ).trans pQ0; have sQ1_3 : v3.cell? ⟨w.heap.size + 1, 1, none⟩ = some (.int .i64 x1Number) := (K3_r.cell plQ).trans pQ1; (first | ((first | (have hNn := made3d b3_r; have hq := made3d_lt b3_r) | (have hNn := made3 b3_r; have hq := made3_lt b3_r))) | (have hNn := Bx.keep hNn b3_r; have hq := keep_lt (by with_reducible assumption) b3_r) | skip); (first | (have hNx := hNn; obtain ⟨n0, n1, n2, nf, nl⟩ := hNx; (try simp only [World.size_drew] at n0 n1 n2 nf nl)) | skip)))
          all_goals
            go_wp2_with fail
            go_meet
            first
              | exact ⟨_, Ah1, ch1, rfl, rfl, midA2 _ _ _ K3_r qh1 (by first | with_reducible assumption | (simp; omega))⟩
              | exact ⟨_, Ah1, ch1, rfl, rfl, midB2 _ _ K3_r hNn (by first | exact Nat.le_refl _ | with_reducible assumption | omega | (simp; omega)) qh1 hq⟩
        case rest =>
          obtain ⟨GH, Ah1, ch1, rfl, rfl, HM⟩ := hcut
          clear pP0 pP1 pP2 plP
          clear pQ0 pQ1 plQ
          generalize wc = u13 at *
          obtain ⟨b, N0, zGH, qh1, qnh⟩ := HM
          have zlH := N0.2.2.2.2
          have B13 := B12.trans (b.mono B12.size)
          have z13 := b.size
          have P_13 := P_12.keep b
          have Q_13 := Q_12.keep b
          have W_13 := W_12.keep b
          have X_13 := X_12.keep b
          have G_13 := G_12.keep b
          have ow1_13 := ow1_12.keep b
          have mg1_13 := ownsRow_keep mg1_12 b
          clear P_12 Q_12 W_12 X_12 G_12 ow1_12 mg1_12 b
          have H_13 := Bo.ofBx N0
          clear N0
          have oh1_13 := qh1
          clear qh1
          have looh1 : ∀ g, Value.ownBlock (.slice Ah1 ((sd x0Buffers x0Credits ls0_2 (⟨x1Kind, x1Number⟩ : ItemR)).2.2.1).length ch1) = some g → u12.heap.size ≤ g := fun g hg => (oh1_13.lt g hg).1
          have hioh1 : ∀ g, Value.ownBlock (.slice Ah1 ((sd x0Buffers x0Credits ls0_2 (⟨x1Kind, x1Number⟩ : ItemR)).2.2.1).length ch1) = some g → g < u13.heap.size := fun g hg => (oh1_13.lt g hg).2
          have pH0 := H_13.1 0 _ rfl
          have pH1 := H_13.1 1 _ rfl
          have pH2 := H_13.1 2 _ rfl
          have plH := H_13.2
          have pW0 := W_13.1 0 _ rfl
          have pW1 := W_13.1 1 _ rfl
          have pW2 := W_13.1 2 _ rfl
          have plW := W_13.2
          go_wp2_with fail
          clear pH0 pH1 pH2 plH
          clear pW0 pW1 pW2 plW
          refine (eqChannel_same (sd x0Buffers x0Credits ls0_2 (⟨x1Kind, x1Number⟩ : ItemR)).1 (sd x0Buffers x0Credits ls0_2 (⟨x1Kind, x1Number⟩ : ItemR)).2.1 Ah1 ch1 Aw1 cw1 (sd x0Buffers x0Credits ls0_2 (⟨x1Kind, x1Number⟩ : ItemR)).2.2.1 _ (oh1_13.row ItemR.enc_len) (ow1_13.row ItemR.enc_len)).mono ?_
          rintro e u14 ⟨rfl, b⟩
          have B14 := B13.trans (b.mono B13.size)
          have z14 := b.size
          have P_14 := P_13.keep b
          have Q_14 := Q_13.keep b
          have W_14 := W_13.keep b
          have X_14 := X_13.keep b
          have G_14 := G_13.keep b
          have H_14 := H_13.keep b
          have ow1_14 := ow1_13.keep b
          have mg1_14 := ownsRow_keep mg1_13 b
          have oh1_14 := oh1_13.keep b
          clear P_13 Q_13 W_13 X_13 G_13 H_13 ow1_13 mg1_13 oh1_13 b
          have pG0 := G_14.1 0 _ rfl
          have pG1 := G_14.1 1 _ rfl
          have pG2 := G_14.1 2 _ rfl
          have plG := G_14.2
          go_wp2_with fail
          clear pG0 pG1 pG2 plG
          refine (heldChannel_any (sd x0Buffers x0Credits ls0_2 (⟨x1Kind, x1Number⟩ : ItemR)).1 (sd x0Buffers x0Credits ls0_2 (⟨x1Kind, x1Number⟩ : ItemR)).2.1 Ag1 ((sd x0Buffers x0Credits ls0_2 (⟨x1Kind, x1Number⟩ : ItemR)).2.2.1).length cg1 (1) _ _ mg1_14 hFg1 (by omega) (by omega)).mono ?_
          rintro e u15 ⟨rfl, b⟩
          have B15 := B14.trans (b.mono B14.size)
          have z15 := b.size
          have P_15 := P_14.keep b
          have Q_15 := Q_14.keep b
          have W_15 := W_14.keep b
          have X_15 := X_14.keep b
          have G_15 := G_14.keep b
          have H_15 := H_14.keep b
          have ow1_15 := ow1_14.keep b
          have mg1_15 := ownsRow_keep mg1_14 b
          have oh1_15 := oh1_14.keep b
          clear P_14 Q_14 W_14 X_14 G_14 H_14 ow1_14 mg1_14 oh1_14 b
          go_wp2
          all_goals go_returns
          all_goals exact ⟨rfl, B15⟩
  · go_enter Try.func12, Try.ntmps12
    go_wp2_with fail
    refine (szChannel_big x0Buffers x0Credits a0_2 ls0_2.length cap0_2 1048576 _ (by omega) (by omega) (by omega) hl2).mono ?_
    rintro e u1 ⟨rfl, b⟩
    have B1 : Below w.heap.size w u1 := Below.trans (((Below.refl _ _).alloc (Nat.le_refl _) _).alloc (by simp) _) (b.mono (by simp; omega))
    clear b
    go_wp2
    all_goals go_returns
    all_goals exact ⟨rfl, B1⟩
set_option maxRecDepth 100000 in
theorem lifted (os : Os) (started : os.Started) (H : Type) (enc : TypeId × Value → H) :
    ReturnsInHanded {} Try.checked os 12 .any (Rows.fnExactSendItemSpec.pre6 enc Try.prog Try.f12 Rows.fnExactSendItemRow.domain false) (Rows.fnExactSendItemSpec.post enc Try.prog Try.f12 false true false false) := by
  refine returnsInHanded_of_change (C := Try.checked) own started (by kernel_rfl) Try.func12
    (ChangeSpec.witness6 (enc := enc) (C := Try.checked) false ⟨#[], #[.agg #[.int .i64 0, .int .i64 0, .slice none 0 0], .agg #[.int .i64 0, .int .i64 0]], []⟩ 8 (by kernel_rfl) (by kernel_rfl) (by kernel_rfl) (by kernel_rfl)) ?_
  intro W base args ds gs before hval0 hW hcnd _
  have hval : ∀ (j : Nat) t v, Try.f12.params[j]? = some t → args[j]? = some v → Value.okWide Try.prog W .any base t v := hval0
  have hW' := hW
  obtain ⟨p, q, hA0, hV, rfl, hfz, hnd⟩ := hW
  have hA : DataW.TrodAll enc Try.prog W 0 (fun _ => true) true Try.f12.params.toList args.toList ds p := hA0
  rw [Try.params12] at hA hval
  obtain ⟨v0, vs0, d0, ds0, p0, q0, hargs, rfl, rfl, h0, r0⟩ := trodAll_cons hA
  obtain ⟨v1, vs1, d1, ds1, p1, q1, rfl, rfl, rfl, h1, r1⟩ := trodAll_cons r0
  obtain ⟨rfl, rfl, rfl⟩ := trodAll_nil r1
  obtain rfl : args = #[v0, v1] := by cases args; simp_all
  obtain ⟨rfl, rfl⟩ := trodVars_none hV
  have k0 := h0
  have lt0 : ∀ x ∈ p0, x.block < W.heap.size := by obtain ⟨m, hm⟩ := k0; exact DataW.trod_lt m _ _ _ hm
  obtain ⟨c0_0, c0_1, c0_2, y0_0, y0_1, y0_2, mm0, rfl, rfl, rfl, hy0_0, hy0_1, hy0_2⟩ := open_agg3 Try.underlying44 (by kernel_rfl) cells44 (hval 0 44 v0 rfl rfl) h0
  obtain ⟨x0Buffers, e0_0, rfl, wx0_0⟩ := DataW.trod_int Try.underlying3 hy0_0
  simp only [List.cons.injEq, and_true] at e0_0
  subst e0_0
  have b0_0 := bounds_i64 wx0_0
  obtain ⟨x0Credits, e0_1, rfl, wx0_1⟩ := DataW.trod_int Try.underlying3 hy0_1
  simp only [List.cons.injEq, and_true] at e0_1
  subst e0_1
  have b0_1 := bounds_i64 wx0_1
  obtain ⟨a0_2, cap0_2, ls0_2, rfl, m0_2, w0_2⟩ := cell_ItemS hy0_2
  have k1 := h1
  have lt1 : ∀ x ∈ p1, x.block < W.heap.size := by obtain ⟨m, hm⟩ := k1; exact DataW.trod_lt m _ _ _ hm
  obtain ⟨c1_0, c1_1, y1_0, y1_1, mm1, rfl, rfl, rfl, hy1_0, hy1_1⟩ := open_agg2 Try.underlying46 (by kernel_rfl) cells46 (hval 1 46 v1 rfl rfl) h1
  obtain ⟨x1Kind, e1_0, rfl, wx1_0⟩ := DataW.trod_int Try.underlying3 hy1_0
  simp only [List.cons.injEq, and_true] at e1_0
  subst e1_0
  have b1_0 := bounds_i64 wx1_0
  obtain ⟨x1Number, e1_1, rfl, wx1_1⟩ := DataW.trod_int Try.underlying3 hy1_1
  simp only [List.cons.injEq, and_true] at e1_1
  subst e1_1
  have b1_1 := bounds_i64 wx1_1
  clear hA0 hval0
  refine (walk x0Buffers x0Credits a0_2 cap0_2 ls0_2 x1Kind x1Number W b0_0.1 b0_0.2 b0_1.1 b0_1.2 m0_2 w0_2 b1_0.1 b1_0.2 b1_1.1 b1_1.2).mono fun e W' ⟨he, bel⟩ => ?_
  subst he
  exact ⟨_, rfl, _, _, _, [], _, [], hW', trodAll_mk1 (shut_bool Try.underlying4 _), (trodAll_cons_mk (Below.trod laidOut (by kernel_rfl) (of_decide_eq_true (by kernel_rfl)) k0 bel lt0) (trodAll_cons_mk (Below.trod laidOut (by kernel_rfl) (of_decide_eq_true (by kernel_rfl)) k1 bel lt1) trodAll_mk0)), rfl, bel.frame _, fun h => by cases h⟩

theorem over : Rows.fnExactSendItemRow.holds Try.pinned (OpenSpec.ofChange Rows.fnExactSendItemSpec) :=
  OpenClaim.holds_of_wide 12 Try.f12 rfl rfl rfl rfl rfl rfl rfl ⟨rfl, rfl, rfl, rfl, rfl⟩ rfl rfl rfl rfl rfl (by kernel_rfl) Try.func12 (by kernel_rfl)
    (of_decide_eq_true (by kernel_rfl)) (by unfold Func.isWrapper; first | (rw [if_pos (by decide +kernel)]; kernel_rfl) | (rw [if_neg (by decide +kernel)]; exact ⟨rfl, rfl⟩))
    (fun os started H enc _ => lifted os started H enc)

theorem proved : Rows.FnExactSendItemSaid := over
#print axioms proved
end Go.Proofs.Ytcpjidbinhfapaa.fnExactSendItem
