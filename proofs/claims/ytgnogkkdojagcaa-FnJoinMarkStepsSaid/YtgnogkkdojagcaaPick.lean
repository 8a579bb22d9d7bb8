import Derived.Test.YtgnogkkdojagcaaBase
namespace Go.Proofs.Ytgnogkkdojagcaa
open Go.RowKit

/-- A reader in block R: its bytes and its place. -/
def Rd (w : World) (R : Nat) (p : Nat) : Prop :=
  p ≤ 1000000000 ∧ ∃ (a : Option Addr) (n c : Nat), w.heap[R]? = some (.cells #[.slice a n c, .int .i64 p] 77 (0, 0)) ∧ n ≤ 2000 ∧
    (0 < n → ∃ (b off : Nat) (z : Nat → Int), a = some ⟨b, off, none⟩ ∧ b < R ∧ ∀ i, i < n → w.cell? ⟨b, off + i, none⟩ = some (.int .u8 (z i)) ∧ 0 ≤ z i ∧ z i ≤ 255)
def PickPost (w : World) (R p : Nat) (m : Int) (e : Ending) (w' : World) : Prop :=
  ∃ v : Int, e = .returned (.int .i64 v) ∧ 0 ≤ v ∧ (0 < m → v < m) ∧ (m ≤ 0 → v = 0) ∧ Rd w' R (p + 1) ∧ w.grownBy w' (some R) ∧ w'.heap.size = w.heap.size
theorem rd_step {w : World} {R p k : Nat} (h : Rd w R p) (hp : p + 1 ≤ 1000000000) :
    Rd ((w.drewN k).setCell ⟨R, 1, none⟩ (.int .i64 ((p : Int) + 1))) R (p + 1) ∧ w.grownBy ((w.drewN k).setCell ⟨R, 1, none⟩ (.int .i64 ((p : Int) + 1))) (some R) := by
  obtain ⟨_, a, n, c, hb, hn, hz⟩ := h
  refine ⟨⟨hp, a, n, c, ?_, hn, fun h0 => ?_⟩, rfl, rfl, rfl, by simp [World.setCell], fun i hi hne => Below.heap_setCell _ _ _ _ (fun e => hne (by rw [e]))⟩
  · show ((w.drewN k).setCell ⟨R, 1, none⟩ (.int .i64 ((p : Int) + 1))).heap[R]? = _
    have hb' : (w.drewN k).heap[R]? = some (.cells #[.slice a n c, .int .i64 p] 77 (0, 0)) := hb
    simp only [World.setCell, Array.getElem?_modify, if_true, hb', Option.map_some]
    rfl
  · obtain ⟨b, off, z, ha, hlt, hc⟩ := hz h0
    refine ⟨b, off, z, ha, hlt, fun i hi => ⟨?_, (hc i hi).2⟩⟩
    rw [World.cell?_setCell_other _ _ _ _ (fun e => by injection e; omega)]
    exact (hc i hi).1
theorem post_pick {w : World} {R p k : Nat} {m v : Int} (h : Rd w R p) (hp : p + 1 ≤ 1000000000) (h0 : 0 ≤ v) (h1 : 0 < m → v < m) (h2 : m ≤ 0 → v = 0) :
    PickPost w R p m (.returned (.int .i64 v)) ((w.drewN k).setCell ⟨R, 1, none⟩ (.int .i64 ((p : Int) + 1))) :=
  ⟨v, rfl, h0, h1, h2, (rd_step h hp).1, (rd_step h hp).2, by simp [World.setCell]⟩
set_option maxHeartbeats 400000 in
theorem pick_neg (m : Int) (w : World) (R p : Nat) (h : Rd w R p) (hp : p + 1 ≤ 1000000000) (hm : m < 1) :
    Calls Try.prog 49 #[.pointer (some ⟨R, 0, none⟩), .int .i64 m] w (PickPost w R p m) := by
  obtain ⟨a, n, c, hb, hn, hz⟩ := h.2
  have c0 := cell_of_row w R 0 _ _ _ hb
  have c1 := cell_of_row w R 1 _ _ _ hb
  have f1 : w.frozen? ⟨R, 1, none⟩ = false := by simp [World.frozen?, hb]
  simp at c0 c1
  have H := Lib.hid (post_pick (k := 0) (v := 0) h hp (by omega) (fun _ => by omega : 0 < m → (0 : Int) < m) (fun _ => rfl))
  clear h hz hb
  go_enter Try.func49, Try.ntmps49
  go_wp2
  go_ret
  exact H.out
set_option maxHeartbeats 400000 in
theorem pick_nil (m : Int) (w : World) (R p : Nat) (h : Rd w R p) (hp : p + 1 ≤ 1000000000) (hm : 1 ≤ m) (a : Option Addr) (c : Nat) (hb : w.heap[R]? = some (.cells #[.slice a 0 c, .int .i64 p] 77 (0, 0))) :
    Calls Try.prog 49 #[.pointer (some ⟨R, 0, none⟩), .int .i64 m] w (PickPost w R p m) := by
  have c0 := cell_of_row w R 0 _ _ _ hb
  have c1 := cell_of_row w R 1 _ _ _ hb
  have f1 : w.frozen? ⟨R, 1, none⟩ = false := by simp [World.frozen?, hb]
  simp at c0 c1
  have H := Lib.hid (post_pick (k := 0) (v := 0) h hp (by omega) (fun _ => by omega : 0 < m → (0 : Int) < m) (fun _ => rfl))
  clear h hb
  go_enter Try.func49, Try.ntmps49
  go_wp2
  go_ret
  exact H.out
set_option maxHeartbeats 400000 in
theorem pick_first (m : Int) (w : World) (R p : Nat) (h : Rd w R p) (hp : p + 1 ≤ 1000000000) (hm : 1 ≤ m) (hm' : m ≤ 9223372036854775807) (n c b off : Nat) (z : Int) (hb : w.heap[R]? = some (.cells #[.slice (some ⟨b, off, none⟩) n c, .int .i64 p] 77 (0, 0)))
    (_hn : n ≤ 2000) (hlt : p < n) (hbR : b < R) (hc : w.cell? ⟨b, off + p, none⟩ = some (.int .u8 z)) (hz0 : 0 ≤ z) (hz1 : z ≤ 255) :
    Calls Try.prog 49 #[.pointer (some ⟨R, 0, none⟩), .int .i64 m] w (PickPost w R p m) := by
  have c0 := cell_of_row w R 0 _ _ _ hb
  have c1 := cell_of_row w R 1 _ _ _ hb
  have f1 : w.frozen? ⟨R, 1, none⟩ = false := by simp [World.frozen?, hb]
  simp at c0 c1
  have hne : ((n : Int) == 0) = false := by simp; omega
  obtain ⟨m0, m1, m2⟩ := mod_facts z m hz0 hm
  have H := Lib.hid (post_pick (k := 0) (v := z % m) h hp m0 m1 m2)
  clear h hb m0 m1 m2
  go_enter Try.func49, Try.ntmps49
  go_wp2
  go_ret
  exact H.out
set_option maxHeartbeats 1000000 in
theorem pick_far (m : Int) (w : World) (R p : Nat) (h : Rd w R p) (hp : p + 1 ≤ 1000000000) (hm : 1 ≤ m) (hm' : m ≤ 9223372036854775807) (n c b off : Nat) (z1 z2 : Int) (hb : w.heap[R]? = some (.cells #[.slice (some ⟨b, off, none⟩) n c, .int .i64 p] 77 (0, 0)))
    (hn : n ≤ 2000) (hn0 : 0 < n) (hlt : n ≤ p) (hbR : b < R) (hc1 : w.cell? ⟨b, off + p % n, none⟩ = some (.int .u8 z1)) (hz1 : 0 ≤ z1) (hz1' : z1 ≤ 255)
    (q : Nat) (hq : ((p : Int) * 7 + 3) % (n : Int) = (q : Int)) (i2 : q < n) (hc2 : w.cell? ⟨b, off + q, none⟩ = some (.int .u8 z2)) (hz2 : 0 ≤ z2) (hz2' : z2 ≤ 255) :
    Calls Try.prog 49 #[.pointer (some ⟨R, 0, none⟩), .int .i64 m] w (PickPost w R p m) := by
  have c0 := cell_of_row w R 0 _ _ _ hb
  have c1 := cell_of_row w R 1 _ _ _ hb
  have f1 : w.frozen? ⟨R, 1, none⟩ = false := by simp [World.frozen?, hb]
  simp at c0 c1
  have hne : ((n : Int) == 0) = false := by simp; omega
  have i1 : p % n < n := Nat.mod_lt _ hn0
  obtain ⟨d, hd⟩ : ∃ d : Nat, (p : Int) / (n : Int) = (d : Int) := ⟨p / n, rfl⟩
  have hdp : d ≤ p := by
    have : d = p / n := by exact Int.ofNat.inj hd.symm
    rw [this]; exact Nat.div_le_self _ _
  obtain ⟨x, hx⟩ : ∃ x : Nat, z1 * 131 + z2 * 1117 + (p : Int) * 29 + (d : Int) * 53 = (x : Int) := ⟨(z1 * 131 + z2 * 1117 + (p : Int) * 29 + (d : Int) * 53).toNat, by omega⟩
  obtain ⟨y, hy⟩ : ∃ y : Nat, (x : Int) / 64 = (y : Int) := ⟨x / 64, rfl⟩
  have hxl : x ≤ 1000000000000 := by omega
  have hyl : y ≤ 1000000000000 := by omega
  obtain ⟨t, ht, ht'⟩ : ∃ t : Nat, bits .xor .i64 (x : Int) (y : Int) = (t : Int) ∧ t < 9223372036854775808 :=
    ⟨x ^^^ y, i64_xor_nat x y (by omega) (by omega), by have : x ^^^ y < 2 ^ 63 := Nat.xor_lt_two_pow (by omega) (by omega); omega⟩
  have tl : (t : Int) ≤ 9223372036854775807 := by omega
  obtain ⟨m0, m1, m2⟩ := mod_facts (t : Int) m (by omega) hm
  have H := fun k => Lib.hid (post_pick (k := k) (v := (t : Int) % m) h hp m0 m1 m2)
  clear hb h m0 m1 m2 ht'
  go_enter Try.func49, Try.ntmps49
  go_wp2
  refine wp_region_quiet_lit (by kernel_rfl) (by kernel_rfl) ?_
  repeat (first | go_big_quiet_step (fail) | quiet_step (fail))
  refine wpQuiet_nil ?_
  intro _ hw'
  obtain ⟨nq, hw''⟩ := hw'
  subst hw''
  go_wp2
  go_ret
  exact (H _).out
theorem pick_any (m : Int) (w : World) (R p : Nat) (h : Rd w R p) (hp : p + 1 ≤ 1000000000) (hm' : m ≤ 9223372036854775807) :
    Calls Try.prog 49 #[.pointer (some ⟨R, 0, none⟩), .int .i64 m] w (PickPost w R p m) := by
  by_cases hm : m < 1
  · exact pick_neg m w R p h hp hm
  · obtain ⟨a, n, c, hb, hn, hz⟩ := h.2
    by_cases h0 : n = 0
    · subst h0
      exact pick_nil m w R p h hp (by omega) a c hb
    · obtain ⟨b, off, z, rfl, hbR, hc⟩ := hz (by omega)
      by_cases hlt : p < n
      · exact pick_first m w R p h hp (by omega) hm' n c b off (z p) hb hn hlt hbR (hc p hlt).1 (hc p hlt).2.1 (hc p hlt).2.2
      · have i1 : p % n < n := Nat.mod_lt _ (by omega)
        have i2 : (p * 7 + 3) % n < n := Nat.mod_lt _ (by omega)
        exact pick_far m w R p h hp (by omega) hm' n c b off (z (p % n)) (z ((p * 7 + 3) % n)) hb hn (by omega) (by omega) hbR (hc _ i1).1 (hc _ i1).2.1 (hc _ i1).2.2
          ((p * 7 + 3) % n) rfl i2 (hc _ i2).1 (hc _ i2).2.1 (hc _ i2).2.2
theorem rd_lt {w : World} {R p : Nat} (h : Rd w R p) : R < w.heap.size := by
  obtain ⟨_, a, n, c, hb, _⟩ := h
  rcases Nat.lt_or_ge R w.heap.size with hlt | hge
  · exact hlt
  · rw [Array.getElem?_eq_none hge] at hb; cases hb
/-- The reader stays as it is behind whatever turns no block up to R. -/
theorem rd_keep {w w' : World} {R p : Nat} (h : Rd w R p) (hk : ∀ k, k ≤ R → w'.heap[k]? = w.heap[k]?) : Rd w' R p := by
  obtain ⟨hp, a, n, c, hb, hn, hz⟩ := h
  refine ⟨hp, a, n, c, (hk R (Nat.le_refl _)).trans hb, hn, fun h0 => ?_⟩
  obtain ⟨b, off, z, ha, hlt, hc⟩ := hz h0
  exact ⟨b, off, z, ha, hlt, fun i hi => ⟨(World.cell?_of_block (hk b (by omega))).trans (hc i hi).1, (hc i hi).2⟩⟩
theorem rd_alloc {w : World} {R p : Nat} (h : Rd w R p) (o : Obj) : Rd (w.alloc o) R p :=
  rd_keep h fun _ hk => Below.heap_alloc _ _ _ (by have := rd_lt h; omega)
theorem rd_setCell {w : World} {R p : Nat} (h : Rd w R p) {a : Addr} (ha : R < a.block) (u : Value) : Rd (w.setCell a u) R p :=
  rd_keep h fun _ hk => Below.heap_setCell _ _ _ _ (by omega)
theorem rd_drewN {w : World} {R p : Nat} (h : Rd w R p) (k : Nat) : Rd (w.drewN k) R p := h
theorem rd_drew {w : World} {R p : Nat} (h : Rd w R p) : Rd w.drew R p := h
def OnePost (w : World) (R p : Nat) (n : Nat) (xs : Nat → Int) (e : Ending) (w' : World) : Prop :=
  ∃ i, i < n ∧ e = .returned (.int .i64 (xs i)) ∧ Rd w' R (p + 1) ∧ w.grownBy w' (some R) ∧ w'.heap.size = w.heap.size
set_option maxHeartbeats 400000 in
theorem one_any (w : World) (R p : Nat) (h : Rd w R p) (hp : p + 1 ≤ 1000000000) (b off n c : Nat) (xs : Nat → Int) (hn : 0 < n) (hn' : n ≤ 1000) (hbl : b < w.heap.size) (hne : b ≠ R)
    (hc : ∀ i, i < n → w.cell? ⟨b, off + i, none⟩ = some (.int .i64 (xs i))) :
    Calls Try.prog 24 #[.pointer (some ⟨R, 0, none⟩), .slice (some ⟨b, off, none⟩) n c] w (OnePost w R p n xs) := by
  have HC := Lib.hid hc
  clear hc
  go_enter Try.func24, Try.ntmps24
  go_wp2_with fail
  refine (pick_any _ _ R p h hp (by omega)).mono ?_
  rintro e w1 ⟨v, rfl, v0, v1, _, hr, hg, hsz⟩
  obtain ⟨i, rfl⟩ := Int.eq_ofNat_of_zero_le v0
  have hi : i < n := by have := v1 (by omega); omega
  have hci := ((grown_cells hg).1 b (off + i) hbl hne).trans (HC.out i hi)
  have H := Lib.hid (⟨i, hi, rfl, hr, hg, hsz⟩ : OnePost w R p n xs (.returned (.int .i64 (xs i))) w1)
  clear HC hr hg hsz v1 h
  go_wp2
  go_ret
  exact H.out
end Go.Proofs.Ytgnogkkdojagcaa
