/-
  word: the law's first question.
-/
import Derived.Test.YtfedofoadfipcaaDoorWordQ
import Derived.Test.YtfedofoadfipcaaDoorWordK
import Derived.Test.YtfedofoadfipcaaDoorEnvBits
namespace Go.Proofs.YtfedofoadfipcaaDoor
open Go.RowKit
set_option linter.unusedVariables false
set_option linter.unusedSimpArgs false
theorem own_litR (w : World) (l : List Int) {base : Nat} (hb : base ≤ w.heap.size) (hm : l.length ≤ 1000) : Own (w.alloc (.cells (U8 l).toArray 5)) base (some ⟨w.heap.size, 0, none⟩) l.length l := by
  have h := Own.new (l := l) (Blk.new w 5 (U8 l).toArray) hb (by simp [maxLen]; omega)
  exact h
theorem bytes_ofW {l : List Int} (h : l.all (fun x => decide (0 ≤ x) && decide (x < 256)) = true) : Bytes l := fun x hx => by
  have := List.all_eq_true.1 h x hx
  simpa using this
theorem inR_of {x : Int} (h : (decide (0 ≤ x) && decide (x < 4611686018427387904)) = true) : InR x := by
  simpa [InR] using h
theorem gm_nil (base : Nat) (w : World) (m : MV) (hn : m.name = []) (hr : m.reason = []) (hv : m.vers = []) : GM base w none none none m :=
  ⟨by rw [hn]; exact Reads.none_, by rw [hr]; exact Reads.none_, by rw [hv]; exact Reads.none_⟩
set_option maxHeartbeats 1600000 in
theorem awake15_any (w : World) (ht : Tab w) : Calls Tryd.prog 9 #[] w fun r w' => r = .returned (.bool true) ∧ Below w.heap.size w w' := by
  have hE : EW w.heap.size w := ⟨ht, ht.1, Nat.le_refl _⟩
  have C1 := BytesW_any ⟨10, 5, 0, [], 0, 0, 0, 0, 0, 0, false, 0, [], 0, 0, []⟩ none 0 none 0 none 0 w.heap.size w hE
    (fun _ => ⟨⟨inR_of rfl, inR_of rfl, inR_of rfl, inR_of rfl, inR_of rfl, inR_of rfl, inR_of rfl, inR_of rfl, inR_of rfl, by decide, by decide, by decide, by simp⟩, inR_of rfl⟩) (gm_nil _ _ _ rfl rfl rfl) (by decide) (by decide) (by decide)
  unfold mvC at C1
  simp only [List.length_nil] at C1
  have hv : validB ⟨10, 5, 0, [], 0, 0, 0, 0, 0, 0, false, 0, [], 0, 0, []⟩ = true := by decide +kernel
  have he : encM ⟨10, 5, 0, [], 0, 0, 0, 0, 0, 0, false, 0, [], 0, 0, []⟩ = [10, 0, 1, 5] := by decide +kernel
  have C1' := Lib.hid C1
  have HV := Lib.hid hv
  have HE := Lib.hid he
  clear C1 hv he hE ht
  go_enter Tryd.func9, Tryd.ntmps9
  go_wp2_with fail
  refine C1'.out.mono ?_
  rintro r w1 h1
  obtain ⟨A1, c1, rfl, o1⟩ := h1.ok HV.out
  rw [HE.out] at o1 ⊢
  have B1 := Lib.hid h1.bel
  have b2 : Below w1.heap.size w1 (w1.alloc (.cells #[.int .u8 10, .int .u8 0, .int .u8 2, .int .u8 5, .int .u8 5] 5)) := (Below.refl _ _).alloc (Nat.le_refl _) _
  have o2 : Own (w1.alloc (.cells #[.int .u8 10, .int .u8 0, .int .u8 2, .int .u8 5, .int .u8 5] 5)) w1.heap.size (some ⟨w1.heap.size, 0, none⟩) 5 [10, 0, 2, 5, 5] := own_litR w1 [10, 0, 2, 5, 5] (Nat.le_refl _) (by decide)
  have O1 := Lib.hid (o1.below b2)
  have B2 := Lib.hid (B1.out.trans (b2.mono B1.out.size))
  have C2 := Lib.hid (Read_any (some ⟨w1.heap.size, 0, none⟩) 5 [10, 0, 2, 5, 5] _ (Sl.of_own o2) (bytes_ofW (by decide)) (by decide))
  have hrd : readW [10, 0, 2, 5, 5] = .error 4 := by kernel_rfl
  have HRD := Lib.hid hrd
  clear h1 o1 b2 o2 hrd C1'
  go_wp2_with fail
  refine C2.out.mono ?_
  rintro r w3 h3
  obtain rfl := h3.no 4 HRD.out
  have B3 := Lib.hid (B2.out.trans (h3.bel.mono B2.out.size))
  have O3 := Lib.hid (O1.out.below h3.bel)
  clear h3 C2 O1 B2
  unfold zeroM mvC mv0
  simp only [List.length_nil]
  obtain ⟨W5, hW5⟩ : ∃ W5, W5 = (w3.alloc (.cells #[.int .u64 0, .int .u64 0, .int .u64 0, .slice none 0 0, .int .u8 0, .int .u8 0, .int .u64 0, .int .u64 0, .int .u64 0, .int .u64 0, .bool false, .int .u64 0, .slice none 0 0, .int .u64 0, .int .u64 0, .slice none 0 0] 31)).alloc (.cells #[.int .u8 10, .int .u8 0, .int .u8 1, .int .u8 5] 5) := ⟨_, rfl⟩
  have b5 : Below w3.heap.size w3 W5 := by rw [hW5]; exact ((Below.refl _ _).alloc (Nat.le_refl _) _).alloc (by simp) _
  have r5 : Rd W5 (some ⟨w3.heap.size + 1, 0, none⟩) [10, 0, 1, 5] := by
    rw [hW5]
    have := Rd.of_own (own_litR (w3.alloc (.cells #[.int .u64 0, .int .u64 0, .int .u64 0, .slice none 0 0, .int .u8 0, .int .u8 0, .int .u64 0, .int .u64 0, .int .u64 0, .int .u64 0, .bool false, .int .u64 0, .slice none 0 0, .int .u64 0, .int .u64 0, .slice none 0 0] 31)) [10, 0, 1, 5] (Nat.le_refl _) (by decide))
    simpa [U8] using this
  have S1 := same_any A1 (some ⟨w3.heap.size + 1, 0, none⟩) c1 4 [10, 0, 1, 5] [10, 0, 1, 5] W5 (Rd.of_own (O3.out.below b5)) r5 (bytes_ofW (by decide)) (bytes_ofW (by decide))
  rw [show sameB [10, 0, 1, 5] [10, 0, 1, 5] = true by decide] at S1
  have S1' := Lib.hid S1
  have B5 := Lib.hid (B3.out.trans (b5.mono B3.out.size))
  have HW5 := Lib.hid hW5
  clear S1 b5 r5 hW5
  go_wp2_with fail
  rw [← HW5.out]
  refine S1'.out.mono ?_
  rintro r w6 ⟨rfl, rfl⟩
  go_wp2_with fail
  go_ret
  exact ⟨rfl, B5.out⟩
end Go.Proofs.YtfedofoadfipcaaDoor
