import Derived.Test.YtjjjlpnbniofjaaCnP
import Derived.Test.YtjjjlpnbniofjaaApp
namespace Go.Proofs.Ytjjjlpnbniofjaa
open Go.RowKit
open Go.Maps Go.Sort Go.Shelf
/-- How a slice reads as an element: as nothing. -/
def slR (v : Value) : Option (DataW Unit × List MemPlace) := match v with
  | .slice _ _ _ => some (.lit (.int .i64 0), [])
  | _ => none
theorem slR_inv {v : Value} {z : DataW Unit × List MemPlace} (h : slR v = some z) : ∃ A n c, v = .slice A n c := by
  unfold slR at h
  split at h
  · exact ⟨_, _, _, rfl⟩
  · cases h
/-- The map with the one key 1. -/
def D1 : DataW Unit := (DataW.map []).put (.int .i64 1) (.lit (.int .i64 0))
theorem d1_keys : intKeys D1 = [1] := by decide
theorem d1_size : Maps.size D1 = 1 := by decide
theorem zeroSl (w : World) : (zeroValue 91).run Try.prog w = .ok (.slice none 0 0) w := by kernel_rfl
theorem keysB_any (mb : Option Nat) (W : World) : Calls Try.prog 113 #[.map mb] W fun e w' => e = .returned (.func (.func 128) #[] #[.pointer (some ⟨W.heap.size, 0, none⟩)]) ∧ w' = W.alloc (.cells #[.map mb] 88) :=
  (callsIn_wide (n := 5)).1 (AnyZI.keys_in keysB Fence.wide 5 trivial rfl mb W)
set_option maxHeartbeats 1000000 in
theorem sortedB_any (b n : Nat) (w : World) (hown : w.ownsMap Try.prog 3 slR b n D1) :
    Calls Try.prog 105 #[.func (.func 128) #[] #[.pointer (some ⟨w.heap.size, 0, none⟩)]] (w.alloc (.cells #[.map (some b)] 88)) fun e w' => ∃ A c, e = .returned (.slice A 1 c) ∧ Own IntR.enc 1 3 w' w.heap.size (.slice A 1 c) [1] ∧ Below w.heap.size (w.alloc (.cells #[.map (some b)] 88)) w' := by
  have hbl := hown.lt
  have hseq : SeqGives Fence.wide 2 Try.prog 128 #[.pointer (some ⟨w.heap.size, 0, none⟩)] encZ (fun ss => ss.Perm (intKeys D1)) (Maps.size D1) (w.alloc (.cells #[.map (some b)] 88)) :=
    AnyZI.keys_gives (ρ := keysB_ren) { keysB with } Fence.wide _ trivial rfl (by omega) w.heap.size b n D1 _ (by simp) (by simp) (by
      obtain ⟨es, clock, hb, Ft, hs, hD⟩ := hown
      exact ⟨es, clock, (Below.heap_alloc _ _ b hbl).trans hb, Ft, hs, hD⟩)
  have hs1 := d1_size
  have cS := AnyZI.sorted_in sortedA Fence.wide 5 trivial trivial trivial trivial rfl (by omega) (sortsA _) (enters_of Try.func125 (by kernel_rfl) rfl) 128 #[.pointer (some ⟨w.heap.size, 0, none⟩)] trivial (enters_of Try.func128 (by kernel_rfl) rfl) _ _ (by rw [hs1]; unfold maxLen; omega) (by rw [hs1]; omega) _ hseq
  change CallsIn _ _ Try.prog 105 _ _ _ at cS
  refine (callsIn_wide.1 cS).mono ?_
  rintro e w' ⟨v, ss, rfl, hperm, hrow, hnil, hb⟩
  rw [d1_keys] at hperm
  have hss : ss = [1] := List.perm_singleton.1 hperm
  subst hss
  have hrow2 : w'.ownsRow w.heap.size 3 1 v 1 (([1] : List Int).flatMap IntR.enc) := by
    have h : w'.ownsRow w.heap.size 3 1 v 1 ((([1] : List Int).mergeSort (fun x y => decide (x ≤ y))).map encZ) := ownsRow_base_a hrow (by simp)
    simpa [encZ, IntR.enc, List.mergeSort_singleton] using h
  have ho : Own IntR.enc 1 3 w' w.heap.size v [1] := ⟨by decide, hrow2⟩
  obtain ⟨A, c, rfl⟩ := ho.form
  exact ⟨A, c, rfl, ho, hb.mono (by simp)⟩
/-- acks of a coordinator without checkpoints. -/
theorem acks_nil (a b c : Int) (w : World) : Calls Try.prog 78 #[.agg #[.int .i64 a, .int .i64 b, .int .i64 c, .slice none 0 0]] w fun e w' => ∃ m, e = .returned (.map (some m)) ∧ w'.ownsMap Try.prog 3 slR m 0 (.map []) ∧ w.heap.size ≤ m ∧ Below w.heap.size w w' := by
  have hmm := @run_makeMap Try.prog
  have hM0 := World.ownsMap_made (w.alloc (.cells #[.int .i64 a, .int .i64 b, .int .i64 c, .slice none 0 0] 46)) Try.prog 3 slR
  rw [World.size_alloc] at hM0
  have hM := Lib.hid hM0
  clear hM0
  go_enter Try.func78, Try.ntmps78
  go_wp2
  go_rounds 1
  all_goals go_wp2
  all_goals go_returns
  all_goals exact ⟨_, rfl, hM.out, by simp, by go_grown⟩
theorem row_form {w : World} {B e s n : Nat} {v : Value} {xs : List Value} (h : w.ownsRow B e s v n xs) : ∃ A c, v = .slice A n c := by
  rcases h.2 with ⟨rfl, hn⟩ | ⟨g, cap, cur, rfl, _⟩
  · exact ⟨none, 0, by rw [hn]⟩
  · exact ⟨_, _, rfl⟩
theorem B4.set3 {w : World} {g : Nat} {a b c d : Value} (h : B4 w g a b c d) (d' : Value) : B4 (w.setCell ⟨g, 3, none⟩ d') g a b c d' := by
  obtain ⟨h0, h1, h2, h3, hf, hl⟩ := h
  exact ⟨by simp [go_sem, h0], by simp [go_sem, h1], by simp [go_sem, h2], by simp [go_sem, h3], fun o => by simp [go_sem, hf o], by simp [go_sem, hl]⟩
theorem B4.set1 {w : World} {g : Nat} {a b c d : Value} (h : B4 w g a b c d) (b' : Value) : B4 (w.setCell ⟨g, 1, none⟩ b') g a b' c d := by
  obtain ⟨h0, h1, h2, h3, hf, hl⟩ := h
  exact ⟨by simp [go_sem, h0], by simp [go_sem, h1], by simp [go_sem, h2], by simp [go_sem, h3], fun o => by simp [go_sem, hf o], by simp [go_sem, hl]⟩
theorem B4.kept {w w' : World} {g : Nat} {a b c d : Value} {row : Option Nat} (h : B4 w g a b c d) (hg : w.grownBy w' row) (hne : some g ≠ row) : B4 w' g a b c d := by
  have hk := hg.block g h.2.2.2.2.2 hne
  exact ⟨(World.cell?_of_block hk).trans h.1, (World.cell?_of_block hk).trans h.2.1, (World.cell?_of_block hk).trans h.2.2.1, (World.cell?_of_block hk).trans h.2.2.2.1, fun o => (World.frozen?_of_block hk).trans (h.2.2.2.2.1 o), Nat.lt_of_lt_of_le h.2.2.2.2.2 hg.size⟩
theorem ckInfo : (Try.prog.info? 94).map (fun i => (i.zero, i.size, i.bytes)) = some (some (.agg #[.int .i64 0, .slice none 0 0]), 2, 32) := by kernel_rfl
set_option maxRecDepth 100000 in
set_option maxHeartbeats 4000000 in
theorem with_any (x : Int) (m n : Nat) (w : World) (hown : w.ownsMap Try.prog 3 slR m n D1) :
    Calls Try.prog 79 #[.agg #[.int .i64 x, .int .i64 2, .int .i64 0, .slice none 0 0], .map (some m)] w fun e w' => ∃ A k c, e = .returned (.agg #[.int .i64 x, .int .i64 2, .int .i64 0, .slice A k c]) ∧ Below w.heap.size w w' := by
  obtain ⟨i0, hi0, hz0, hz1, hz2⟩ := info_parts ckInfo
  have hml := hown.lt
  have X0 := (B4.made w (.int .i64 x) (.int .i64 2) (.int .i64 0) (.slice none 0 0) 46).keep ((Below.refl _ _).alloc (Nat.le_refl _) (.cells #[.int .i64 0, .int .i64 0, .int .i64 0, .slice none 0 0] 46))
  have R0 := B4.made (w.alloc (.cells #[.int .i64 x, .int .i64 2, .int .i64 0, .slice none 0 0] 46)) (.int .i64 0) (.int .i64 0) (.int .i64 0) (.slice none 0 0) 46
  have hB : Below w.heap.size w ((w.alloc (.cells #[.int .i64 x, .int .i64 2, .int .i64 0, .slice none 0 0] 46)).alloc (.cells #[.int .i64 0, .int .i64 0, .int .i64 0, .slice none 0 0] 46)) := ((Below.refl _ _).alloc (Nat.le_refl _) _).alloc (by simp) _
  simp only [World.size_alloc] at R0
  have hz : ((w.alloc (.cells #[.int .i64 x, .int .i64 2, .int .i64 0, .slice none 0 0] 46)).alloc (.cells #[.int .i64 0, .int .i64 0, .int .i64 0, .slice none 0 0] 46)).heap.size = w.heap.size + 2 := by simp
  have hown0 : ((w.alloc (.cells #[.int .i64 x, .int .i64 2, .int .i64 0, .slice none 0 0] 46)).alloc (.cells #[.int .i64 0, .int .i64 0, .int .i64 0, .slice none 0 0] 46)).ownsMap Try.prog 3 slR m n D1 := (hown.alloc _).alloc _
  obtain ⟨p0, p1, p2, p3, pf, pl⟩ := id X0
  go_enter Try.func79, Try.ntmps79
  go_wp2_with fail
  clear p0 p1 p2 p3 pf pl
  generalize ((w.alloc (.cells #[.int .i64 x, .int .i64 2, .int .i64 0, .slice none 0 0] 46)).alloc (.cells #[.int .i64 0, .int .i64 0, .int .i64 0, .slice none 0 0] 46)) = w0 at *
  have hS := sortedB_any m n w0 hown0
  rw [hz] at hS
  refine (keysB_any (some m) _).mono ?_
  rintro e w2 ⟨rfl, rfl⟩
  have bA : Below w0.heap.size w0 (w0.alloc (.cells #[.map (some m)] 88)) := (Below.refl _ _).alloc (Nat.le_refl _) _
  rw [hz] at bA
  go_wp2_with fail
  refine hS.mono ?_
  rintro e w3 ⟨As, cs, rfl, os, b3⟩
  have bK := bA.trans b3
  rw [← hz] at bK
  have X3 := X0.keep bK
  have R3 := R0.keep bK
  have B3 := hB.trans (bK.mono hB.size)
  have hown3 := hown0.kept (gb_of_below bK) (by simp)
  have hz3 := bK.size
  have Hf := Lib.hid (show _ ∧ _ ∧ _ ∧ _ ∧ _ from ⟨X3, R3, B3, hown3, os⟩)
  clear X0 R0 hB hown0 hown bA b3 hS bK X3 R3 B3 hown3 os
  go_wp2_with fail
  go_loopw [6, 12] (fun _ i wr => ∃ k : Nat, k ≤ 1 ∧ i = .int .i64 k ∧ (k = 0 → wr = w3) ∧ (k = 1 → ∃ A n c, B4 wr w.heap.size (.int .i64 x) (.int .i64 2) (.int .i64 0) (.slice A n c) ∧ B4 wr (w.heap.size + 1) (.int .i64 0) (.int .i64 0) (.int .i64 0) (.slice none 0 0) ∧ Below w.heap.size w wr)) (fun _ i _ => 1 - (Go.RowKit.intOf i).toNat)
  case atStart => exact ⟨0, by omega, rfl, fun _ => rfl, fun h => by omega⟩
  case round =>
    obtain ⟨k, hk, rfl, hk0, hk1⟩ := hrel
    by_cases hlt : k < 1
    · obtain rfl : k = 0 := by omega
      obtain rfl := hk0 rfl
      clear hk0 hk1
      obtain ⟨X3, R3, B3, hown3, os⟩ := Hf.out
      obtain ⟨b', off, rfl, hblt, q0⟩ := (os.row IntR.enc_len).atInt (i := 0) (by simp)
      simp only [List.getElem_cons_zero, Nat.add_zero] at q0
      obtain ⟨v, ps, hrun, hv⟩ := hown3.lookup lawI Try.underlying88 (zeroSl _) (show slR (.slice none 0 0) = some (.lit (.int .i64 0), []) from rfl) (keyI (a := 1) (by omega) (by omega))
      obtain ⟨Av, nv, cv, rfl⟩ := slR_inv hv
      obtain ⟨p0, p1, p2, p3, pf, pl⟩ := id X3
      have hown' := World.ownsRow_nil wr w.heap.size 94 2
      clear hv Hf
      go_wp2_with (first | (at_builtin; refine wpList_append_own _ rfl _ _ 44 rfl w.heap.size 94 i0 _ 2 32 Try.underlying44 hi0 hz0 hz1 hz2 rfl (by decide) _ _ _ rfl (ownsRow_keep hown' ((Below.refl _ _).alloc (Nat.le_refl _) _)) ⟨wr.heap.size, 0, none⟩ 1 1 [.int .i64 1, .slice Av nv cv] rfl rfl ?c1 ?c2 ?c3 ?c4 ?c5 ?_) | fail)
      case c1 =>
        intro j u hu
        rcases j with _ | _ | j <;> simp at hu <;> subst hu <;> simp [Addr.add, go_sem]
      case c2 => intro u hu; simp at hu; rcases hu with rfl | rfl <;> rfl
      case c3 => unfold maxLen; omega
      case c4 => omega
      case c5 => have := B3.size; simp; omega
      intro v' w4 hown4 hg4 _
      have bb : Below wr.heap.size wr (wr.alloc (.cells #[.int .i64 1, .slice Av nv cv] 94)) := (Below.refl _ _).alloc (Nat.le_refl _) _
      have b4 := below_of_gb (B0 := wr.heap.size) hg4 (by simp) (fun g hg => by simp [Value.ownBlock] at hg)
      have b4' := bb.trans b4
      have X4 := X3.keep b4'
      have R4 := R3.keep b4'
      have B4' := B3.trans (b4'.mono B3.size)
      obtain ⟨Ar, cr, rfl⟩ := row_form hown4
      have X5 := X4.set3 (.slice Ar 1 cr)
      have R5 := R4.kept (set_grown w4 ⟨w.heap.size, 3, none⟩ (.slice Ar 1 cr)) (by simp)
      have B5 := B4'.setCell (p := ⟨w.heap.size, 3, none⟩) (by simp) (.slice Ar 1 cr)
      have Hn := Lib.hid (show _ ∧ _ ∧ _ from ⟨X5, R5, B5⟩)
      obtain ⟨y0, y1, y2, y3, yf, yl⟩ := X4
      clear p0 p1 p2 p3 pf pl X5 R5 B5 R4 B4' X3 R3 B3 hown3 os bb b4 b4' hown4 hg4 hrun q0
      go_wp2
      go_roundw
      case rel => exact ⟨1, by omega, by go_num, fun h => by omega, fun _ => ⟨_, _, _, Hn.out⟩⟩
      case measure => simp [Go.RowKit.intOf]
    · obtain rfl : k = 1 := by omega
      obtain ⟨A, n', c, X6, R6, B6⟩ := hk1 rfl
      clear hk0 hk1 Hf
      obtain ⟨p0, p1, p2, p3, pf, pl⟩ := id X6
      have R7 := R6.set (.int .i64 x) (.int .i64 2) (.int .i64 0) (.slice A n' c)
      have B7 := below_set4 (g := w.heap.size + 1) B6 (by omega) (.int .i64 x) (.int .i64 2) (.int .i64 0) (.slice A n' c)
      obtain ⟨r0, r1, r2, r3, rf, rl⟩ := R6
      obtain ⟨y0, y1, y2, y3, -, -⟩ := R7
      have He := Lib.hid (show _ ∧ _ ∧ _ ∧ _ ∧ _ from ⟨y0, y1, y2, y3, B7⟩)
      clear y0 y1 y2 y3 B7
      go_wp2
      generalize ((((wr.setCell ⟨w.heap.size + 1, 0, none⟩ (.int .i64 x)).setCell ⟨w.heap.size + 1, 1, none⟩ (.int .i64 2)).setCell ⟨w.heap.size + 1, 2, none⟩ (.int .i64 0)).setCell ⟨w.heap.size + 1, 3, none⟩ (.slice A n' c)) = wF at *
      have e := He.out
      (try simp only [Exit.inBlock, Exit.then])
      refine bodyPost_ret (by simp [results, Try.results79, go_sem, e.1, e.2.1, e.2.2.1, e.2.2.2.1]; try rfl) rfl ?_
      exact ⟨A, n', c, rfl, e.2.2.2.2⟩
end Go.Proofs.Ytjjjlpnbniofjaa
