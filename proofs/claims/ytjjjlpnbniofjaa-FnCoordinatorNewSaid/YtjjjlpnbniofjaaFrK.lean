import Derived.Test.YtjjjlpnbniofjaaFrM
import Derived.Test.YtjjjlpnbniofjaaLayA
import Derived.Shelf.SlIterI.Nil
import Derived.Shelf.SortM.Plain
import Derived.Shelf.SortM.SortNone
import Derived.Deep.RegionHeld3
namespace Go.Proofs.Ytjjjlpnbniofjaa
open Go.RowKit
open Go.Maps Go.Sort Go.Shelf
theorem sortsA (m : Nat) : AnyZI.SortsIn Try.prog sortedA_ren Fence.wide m :=
  ⟨fun blk off cap ss W hH hblk hsz => callsIn_wide.2 (AnyM.slices_Sort_int sortA blk off cap ss W hH hblk hsz),
   fun p cap W => callsIn_wide.2 (AnyM.slices_Sort_int_none sortA p cap W)⟩
theorem keysF_any (mb : Option Nat) (W : World) : Calls Try.prog 106 #[.map mb] W fun e w' => e = .returned (.func (.func 126) #[] #[.pointer (some ⟨W.heap.size, 0, none⟩)]) ∧ w' = W.alloc (.cells #[.map mb] 71) :=
  (callsIn_wide (n := 5)).1 (AnyZI.keys_in keysA Fence.wide 5 trivial rfl mb W)
/-- The keys of a map of counts, ascending. -/
def KeysOfG (g : Int → Int) (ss : List Int) : Prop := ss.Pairwise (fun a b => a < b) ∧ ∀ k, k ∈ ss ↔ 0 < g k
theorem pw_and {α : Type} {R S : α → α → Prop} {l : List α} (h1 : l.Pairwise R) (h2 : l.Pairwise S) : l.Pairwise (fun a b => R a b ∧ S a b) := by
  induction l with
  | nil => exact List.Pairwise.nil
  | cons x l ih =>
    obtain ⟨a1, a2⟩ := List.pairwise_cons.1 h1
    obtain ⟨b1, b2⟩ := List.pairwise_cons.1 h2
    exact List.pairwise_cons.2 ⟨fun y hy => ⟨a1 y hy, b1 y hy⟩, ih a2 b2⟩
theorem nodup_of_sorted {ss : List Int} (hnd : ss.Nodup) : (ss.mergeSort (fun x y => decide (x ≤ y))).Pairwise (fun a b => a < b) := by
  have hle : (ss.mergeSort (fun x y => decide (x ≤ y))).Pairwise (fun a b => (decide (a ≤ b)) = true) :=
    List.pairwise_mergeSort (fun a b c h1 h2 => by simp only [decide_eq_true_eq] at *; exact Int.le_trans h1 h2) (fun a b => by simp only [Bool.or_eq_true, decide_eq_true_eq]; exact Int.le_total a b) ss
  have hnd2 : (ss.mergeSort (fun x y => decide (x ≤ y))).Nodup := (List.mergeSort_perm ss _).nodup_iff.2 hnd
  exact (pw_and hle hnd2).imp (fun {a b} h => by have := of_decide_eq_true h.1; have := h.2; omega)
theorem intKeys_facts {w : World} {b n : Nat} {D : DataW Unit} {R : Value → Option (DataW Unit × List MemPlace)} (hown : w.ownsMap Try.prog 3 R b n D) : (intKeys D).Nodup ∧ ∀ k, k ∈ intKeys D ↔ Maps.has D (.int .i64 k) = true := by
  obtain ⟨es, hD, hpw, _⟩ := hown.entries lawI
  obtain ⟨es', hD', hko⟩ := hown.keysOf
  obtain rfl : es = es' := by rw [hD] at hD'; simpa using hD'
  subst hD
  have hk : ∀ p ∈ es, ∃ x, p.1 = .int .i64 x := fun p hp => by obtain ⟨v, hv⟩ := hko p hp; obtain ⟨x, _, hx, _⟩ := Maps.keyOf_i64 Try.underlying3 hv; exact ⟨x, hx⟩
  have hnd : (es.map fun p => Go.intOf p.1).Nodup := by
    refine List.pairwise_map.2 (hpw.imp_of_mem fun {p q} hp' hq' hne e => hne ?_)
    obtain ⟨a, ha⟩ := hk p hp'
    obtain ⟨b, hb⟩ := hk q hq'
    rw [ha, hb] at e ⊢
    exact congrArg _ e
  refine ⟨hnd, fun x => ?_⟩
  rw [has_eq, List.any_eq_true]
  show x ∈ (es.map fun p => Go.intOf p.1) ↔ _
  rw [List.mem_map]
  constructor
  · rintro ⟨p, hp', rfl⟩
    obtain ⟨a, ha⟩ := hk p hp'
    exact ⟨p, hp', by rw [ha]; simp [Lit.sameKey, Go.intOf]⟩
  · rintro ⟨p, hp', hs⟩
    obtain ⟨a, ha⟩ := hk p hp'
    rw [ha] at hs
    exact ⟨p, hp', by rw [ha]; simpa [Lit.sameKey, Go.intOf] using hs⟩
theorem flat_ints (ss : List Int) : ss.map encZ = ss.flatMap IntR.enc := by
  induction ss with
  | nil => rfl
  | cons x l ih => rw [List.map_cons, List.flatMap_cons, ih]; rfl
set_option maxHeartbeats 1000000 in
/-- slices.Sorted over what maps.Keys has handed back: the keys, ascending, in memory of the call's own. -/
theorem sortedF_any (b n : Nat) (g : Int → Int) (w : World) (hm : MapI w b n g) (hn : n ≤ 1048576) :
    Calls Try.prog 105 #[.func (.func 126) #[] #[.pointer (some ⟨w.heap.size, 0, none⟩)]] (w.alloc (.cells #[.map (some b)] 71)) fun e w' => ∃ A c ss, e = .returned (.slice A ss.length c) ∧ KeysOfG g ss ∧ ss.length ≤ n ∧ Own IntR.enc 1 3 w' w.heap.size (.slice A ss.length c) ss ∧ Below w.heap.size (w.alloc (.cells #[.map (some b)] 71)) w' := by
  obtain ⟨D0, hown, hhas, _⟩ := hm
  have hbl := hown.lt
  have hsz := hown.size_le
  obtain ⟨f1, f2⟩ := intKeys_facts hown
  have hseq : SeqGives Fence.wide 2 Try.prog 126 #[.pointer (some ⟨w.heap.size, 0, none⟩)] encZ (fun ss => ss.Perm (intKeys D0)) (Maps.size D0) (w.alloc (.cells #[.map (some b)] 71)) :=
    AnyZI.keys_gives (ρ := keysA_ren) { keysA with } Fence.wide _ trivial rfl (by omega) w.heap.size b n D0 _ (by simp) (by simp) (by
      obtain ⟨es, clock, hb, Ft, hs, hD⟩ := hown
      exact ⟨es, clock, (Below.heap_alloc _ _ b hbl).trans hb, Ft, hs, hD⟩)
  have cS := AnyZI.sorted_in sortedA Fence.wide 5 trivial trivial trivial trivial rfl (by omega) (sortsA _) (enters_of Try.func125 (by kernel_rfl) rfl) 126 #[.pointer (some ⟨w.heap.size, 0, none⟩)] trivial (enters_of Try.func126 (by kernel_rfl) rfl) _ _ (by unfold maxLen; omega) (by omega) _ hseq
  change CallsIn _ _ Try.prog 105 _ _ _ at cS
  refine (callsIn_wide.1 cS).mono ?_
  rintro e w' ⟨v, ss, rfl, hperm, hrow, hnil, hb⟩
  have hlen : ss.length = (ss.mergeSort (fun x y => decide (x ≤ y))).length := by simp
  have hss : ss.length ≤ n := by
    rw [hperm.length_eq]
    obtain ⟨es, hD, _⟩ := hown.entries lawI
    rw [hD] at hsz ⊢
    simpa [intKeys, Maps.size] using hsz
  have hrow2 : w'.ownsRow w.heap.size 3 1 v (ss.mergeSort (fun x y => decide (x ≤ y))).length ((ss.mergeSort (fun x y => decide (x ≤ y))).flatMap IntR.enc) := by
    rw [← flat_ints, ← hlen]
    exact ownsRow_base_a hrow (by simp)
  have ho : Own IntR.enc 1 3 w' w.heap.size v (ss.mergeSort (fun x y => decide (x ≤ y))) := ⟨by rw [← hlen]; omega, hrow2⟩
  obtain ⟨A, c, rfl⟩ := ho.form
  refine ⟨A, c, _, rfl, ⟨nodup_of_sorted (hperm.nodup_iff.2 f1), fun k => ?_⟩, by rw [← hlen]; exact hss, ho, hb.mono (by simp)⟩
  rw [(List.mergeSort_perm ss _).mem_iff, hperm.mem_iff, f2, hhas, decide_eq_true_eq]
theorem cnt_keys {g : Int → Int} {ss : List Int} (h : KeysOfG g ss) (hs : ∀ f, ¬ (0 ≤ f ∧ f ≤ 99) → g f = 0) : ss.map (fun f => (⟨f, g f⟩ : FileRefR)) = cntR g := by
  refine ref_ext ?_ (cnt_pw _) (fun x => ?_)
  · rw [List.pairwise_map]; exact h.1
  · rw [List.mem_map, mem_cnt]
    constructor
    · rintro ⟨f, hf, rfl⟩
      have h0 := (h.2 f).1 hf
      have hb : 0 ≤ f ∧ f ≤ 99 := by
        rcases Classical.em (0 ≤ f ∧ f ≤ 99) with hb | hb
        · exact hb
        · rw [hs f hb] at h0; omega
      exact ⟨hb.1, hb.2, h0, rfl⟩
    · rintro ⟨_, _, h3, h4⟩
      exact ⟨x.a0, (h.2 _).2 h3, by rw [← h4]⟩
theorem map_next {α β : Type} {f : α → β} {l : List α} {k : Nat} {x : α} (hx : l[k]? = some x) : (l.take (k + 1)).map f = (l.take k).map f ++ [f x] := by
  rw [List.take_add_one, hx, List.map_append]; rfl
theorem rows_ne {w : World} {B B' e e' s s' n n' : Nat} {v v' : Value} {xs xs' : List Value} (h : w.ownsRow B e s v n xs) (h' : w.ownsRow B' e' s' v' n' xs') (hne : e ≠ e') : ∀ g g', v.ownBlock = some g → v'.ownBlock = some g' → g ≠ g' := by
  intro g g' h1 h2 he
  rcases h.2 with ⟨rfl, _⟩ | ⟨g1, cap, cur, rfl, _, hh, _⟩
  · simp [Value.ownBlock] at h1
  · rcases h'.2 with ⟨rfl, _⟩ | ⟨g2, cap2, cur2, rfl, _, hh2, _⟩
    · simp [Value.ownBlock] at h2
    · have e1 : g1 = g := by simpa [Value.ownBlock] using h1
      have e2 : g2 = g' := by simpa [Value.ownBlock] using h2
      subst e1 e2 he
      rw [hh] at hh2
      injection hh2 with hh2
      injection hh2 with _ h3 _
      exact hne h3
def mkRef (g : Int → Int) (f : Int) : FileRefR := ⟨f, g f⟩
set_option maxRecDepth 100000 in
set_option maxHeartbeats 4000000 in
theorem refs_any (b n : Nat) (g : Int → Int) (w : World) (hm : MapI w b n g) (hn : n ≤ 1048576) (hs : ∀ f, ¬ (0 ≤ f ∧ f ≤ 99) → g f = 0) :
    Calls Try.prog 65 #[.map (some b)] w (OwnPost FileRefR.enc 2 67 w (cntR g)) := by
  obtain ⟨i0, hi0, hz0, hz1, hz2⟩ := info_parts FileRefR.zero_info
  have hB : Below w.heap.size w (w.alloc (.cells #[.map (some b)] 71)) := (Below.refl _ _).alloc (Nat.le_refl _) _
  have hS := sortedF_any b n g w hm hn
  have HS := Lib.hid hS
  have Hs := Lib.hid hs
  clear hS hs
  go_enter Try.func65, Try.ntmps65
  go_wp2_with fail
  refine (keysF_any (some b) _).mono ?_
  rintro e w1 ⟨rfl, rfl⟩
  go_wp2_with fail
  refine HS.out.mono ?_
  rintro e w2 ⟨As, cs, ss, rfl, hks, hsl, os, hb2⟩
  have hbw := hB.trans hb2
  have hm2 := hm.keep hbw
  have HR := Lib.hid os
  have HM := Lib.hid hm2
  have HF := Lib.hid (show cntR g = ss.map (mkRef g) from (cnt_keys hks Hs.out).symm)
  have HK := Lib.hid hks
  have Hst := Lib.hid (acc_none FileRefR.enc 2 67 hbw)
  clear HS hm hm2 os hks hB hb2
  go_wp2
  go_loopw [3, 10] (fun v i wr => ∃ (k : Nat) (xs : List FileRefR), k ≤ ss.length ∧ i = .int .i64 k ∧ xs = (ss.take k).map (mkRef g) ∧ Acc FileRefR.enc 2 67 w xs v wr ∧ MapI wr b n g ∧ Own IntR.enc 1 3 wr w.heap.size (.slice As ss.length cs) ss) (fun _ i _ => ss.length - (Go.RowKit.intOf i).toNat)
  case atStart => exact ⟨0, [], Nat.zero_le _, rfl, by simp, Hst.out, HM.out, HR.out⟩
  case round =>
    obtain ⟨k, xs, hk, rfl, hxs, hacc, hm, hr⟩ := hrel
    clear Hst HM HR
    have Hxs := Lib.hid hxs
    have Hacc := Lib.hid hacc
    have hbw2 := hacc.2
    clear hacc hxs
    by_cases hlt : k < ss.length
    · obtain ⟨b', off, rfl, hblt, q0⟩ := (hr.row IntR.enc_len).atInt hlt
      have hx : ss[k]? = some ss[k] := List.getElem?_eq_getElem hlt
      generalize ss[k] = x at *
      have hp := (HK.out.2 x).1 (List.mem_of_getElem? hx)
      have hxb : 0 ≤ x ∧ x ≤ 99 := by
        rcases Classical.em (0 ≤ x ∧ x ≤ 99) with h | h
        · exact h
        · rw [Hs.out x h] at hp; omega
      have hrun := hm.run (k := x) (by omega) (by omega)
      have Hfn := Lib.hid (map_next (f := mkRef g) hx)
      have Hm := Lib.hid hm
      have Hr := Lib.hid hr
      have hlen : xs.length ≤ ss.length := by rw [Hxs.out]; simp; omega
      generalize hgx : g x = gx at *
      have Hgx := Lib.hid hgx
      clear hx hm hr hp hgx
      have hown := Hacc.out.1
      go_wp2_with (first | (at_builtin; refine wpList_append_own _ rfl _ _ 25 rfl w.heap.size 67 i0 _ 2 16 Try.underlying25 hi0 hz0 hz1 hz2 rfl (by decide) _ _ _ rfl (hown.alloc _) ⟨wr.heap.size, 0, none⟩ 1 1 (FileRefR.enc ⟨x, gx⟩) rfl rfl ?c1 ?c2 ?c3 ?c4 ?c5 ?_) | fail)
      case c1 =>
        intro j u hu
        rcases j with _ | _ | j <;> simp [FileRefR.enc] at hu <;> subst hu <;> simp [Addr.add, go_sem]
      case c2 => intro u hu; simp [FileRefR.enc] at hu; rcases hu with rfl | rfl <;> rfl
      case c3 => unfold maxLen; omega
      case c4 => omega
      case c5 => have := Hacc.out.2.size; simp; omega
      intro v' w2' hown' hg' _
      have hne := mapI_own Hm.out hown
      have hbA : Below wr.heap.size wr (wr.alloc (.cells #[.int .i64 x, .int .i64 gx] 67)) := (Below.refl _ _).alloc (Nat.le_refl _) _
      have hm2 := (Hm.out.keep hbA).kept hg' hne
      have hos2 := (Hr.out.keep hbA).far hg' (rows_ne Hr.out.2 hown (by decide))
      have hnext := acc_push Hacc.out hbA hown' hg'
      have hxn : xs ++ [⟨x, gx⟩] = (ss.take (k + 1)).map (mkRef g) := by rw [Hfn.out, Hxs.out]; unfold mkRef; rw [Hgx.out]
      have Hn := Lib.hid (show _ ∧ _ ∧ _ ∧ _ from ⟨hxn, hnext, hm2, hos2⟩)
      clear hnext hown' hg' hown Hacc Hfn hm2 hne hos2 hxn hbA Hm Hr
      go_wp2
      go_roundw
      case rel => exact ⟨k + 1, _, by omega, by go_num, Hn.out.1, Hn.out.2.1, Hn.out.2.2.1, Hn.out.2.2.2⟩
      case measure => simp [Go.RowKit.intOf]; omega
    · have hfin := Hacc.out
      have hxe : xs = cntR g := by rw [Hxs.out, List.take_of_length_le (by omega), HF.out]
      have hxl : xs.length ≤ 1048576 := by rw [Hxs.out]; simp; omega
      have Hxe := Lib.hid hxe
      have Hfin := Lib.hid hfin
      clear hfin Hacc hxe
      go_wp2
      all_goals go_returns
      all_goals (rw [← Hxe.out]; exact acc_post Hfin.out hxl)
end Go.Proofs.Ytjjjlpnbniofjaa
