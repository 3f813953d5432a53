/-
  LossOnce: the steps' structures.
-/
import Derived.Test.YtfalnaagfndgfaaLossR
namespace Go.Proofs.Ytfalnaagfndgfaa
open Go.RowKit Go.Maps
set_option linter.unusedVariables false
set_option linter.unusedSimpArgs false
theorem elem_rg : Try.prog.elem 33 = 63 := by kernel_rfl
theorem run_sizeOf_rg (w : World) : (sizeOf 63).run Try.prog w = .ok 2 w := by
  obtain ⟨i0, hi0, hz0, hz1, hz2⟩ := info_parts info_range
  simp [sizeOf, typeInfo, hi0, hz1]
theorem slice_rg (A : Option Addr) (c n k : Nat) (z : Int) (hz : z = k) (hk : k ≤ n) (hc : n ≤ c) (w : World) :
    (Instr.slice 33 (.slice A n c) none (some (.int .i64 z)) none).run Try.prog w = .ok (.slice A k c) w := by
  subst hz
  rw [run_slice_h (P := Try.prog) w 33 A n c (by rw [elem_rg]; exact Try.underlying33) .i64 (k : Int) (by omega) (by omega), elem_rg, run_sizeOf_rg]
  cases A <;> simp [sliced, Addr.add]
theorem MapC.frm {w w' : World} {B n : Nat} {f : Int → Option Int} {S : Nat → Prop} (h : MapC w B n f) (hf : Frm w w' S) (hs : ¬ S B) : MapC w' B n f := by
  have hlt := h.lt
  obtain ⟨D, ⟨es, ck, hb, r⟩, h2⟩ := h
  exact ⟨D, ⟨es, ck, (hf.blk B hlt hs).trans hb, r⟩, h2⟩
theorem MapC.ledS {w : World} {B n : Nat} {f : Int → Option Int} {base g : Nat} {A : Option Addr} {c : Nat} {l : LG} (h : MapC w B n f) (hl : Led w base g A c l) : ¬ LedS g A B := fun hs => by
  obtain ⟨t, cs, hb⟩ := hl.blkS hs
  exact h.ne hb rfl
theorem MapC.own {w : World} {B m : Nat} {f : Int → Option Int} (h : MapC w B m f) {base : Nat} {e : TypeId} {size n : Nat} {A : Option Addr} {c : Nat} {xs : List Value} (ho : OwnV w base e size A c n xs) : ∀ k, (Value.slice A n c).ownBlock = some k → some B ≠ some k := fun k hk e => by
  injection e with e
  obtain ⟨cs, hb⟩ := OwnV.blk ho hk
  exact h.ne hb e.symm
/-- A ledger stands while the map is written. -/
theorem Led.map {w w' : World} {B n : Nat} {f : Int → Option Int} {base g : Nat} {A : Option Addr} {c : Nat} {l : LG} (h : Led w base g A c l) (hm : MapC w B n f) (hg : w.grownBy w' (some B)) : Led w' base g A c l :=
  h.frm (S := fun b => b = B) ((Frm.refl _ _).grown hg (fun r hr => .inr (by injection hr with hr; exact hr.symm))) (fun b hb e => by subst e; exact hm.ledS h hb)
/-- What holds between the law's steps. -/
structure ON (w wr : World) (base g : Nat) (A : Option Addr) (c : Nat) (l : LG) (B n : Nat) (S : List Int) : Prop where
  led : Led wr base g A c l
  ok : LgOk l
  map : MapC wr B n (fc S (nus l.op))
  sub : ∀ x ∈ nus l.op, x ∈ S
  lo : ∀ x ∈ S, 0 ≤ x ∧ x < l.nx
  bel : Below w.heap.size w wr
  hb : w.heap.size ≤ B
  hbase : w.heap.size ≤ base
  hbw : base ≤ wr.heap.size
/-- What holds behind a call, ahead of the law's marks. -/
structure AF (w wx : World) (base g : Nat) (A : Option Addr) (c : Nat) (l : LG) (B n : Nat) (S : List Int) (vb : Nat) (A2 : Option Addr) (c2 : Nat) (G : List PK) (k : Nat) : Prop where
  led : Led wx base g A c l
  ok : LgOk l
  own : OwnV wx vb 49 4 A2 c2 G.length (FlV PkC (G))
  map : MapC wx B (n + k) (fc S (nus l.op ++ nus (G.drop k)))
  sub : ∀ x ∈ nus l.op ++ nus G, x ∈ S
  ap : ∀ j p, G[j]? = some p → p.nu ∉ nus l.op ++ nus (G.drop (j + 1))
  lo : ∀ x ∈ S, 0 ≤ x ∧ x < l.nx
  bel : Below w.heap.size w wx
  hb : w.heap.size ≤ B
  hbase : w.heap.size ≤ base
  hbw : base ≤ wx.heap.size
theorem ON.alloc {w wr : World} {base g : Nat} {A : Option Addr} {c : Nat} {l : LG} {B n : Nat} {S : List Int} (h : ON w wr base g A c l B n S) (o : Obj) : ON w (wr.alloc o) base g A c l B n S :=
  ⟨h.led.below ((Below.refl _ _).alloc (Nat.le_refl _) o), h.ok, h.map.alloc o, h.sub, h.lo, h.bel.alloc h.bel.size o, h.hb, h.hbase, by simp; have := h.hbw; omega⟩
theorem AF.alloc {w wx : World} {base g : Nat} {A : Option Addr} {c : Nat} {l : LG} {B n : Nat} {S : List Int} {vb : Nat} {A2 : Option Addr} {c2 : Nat} {G : List PK} {k : Nat} (h : AF w wx base g A c l B n S vb A2 c2 G k) (o : Obj) : AF w (wx.alloc o) base g A c l B n S vb A2 c2 G k :=
  ⟨h.led.below ((Below.refl _ _).alloc (Nat.le_refl _) o), h.ok, OwnV.below h.own ((Below.refl _ _).alloc (Nat.le_refl _) o), h.map.alloc o, h.sub, h.ap, h.lo, h.bel.alloc h.bel.size o, h.hb, h.hbase, by simp; have := h.hbw; omega⟩
/-- Nothing went. -/
theorem ON.idle {w wr : World} {base g : Nat} {A : Option Addr} {c : Nat} {l : LG} {B n : Nat} {S : List Int} (h : ON w wr base g A c l B n S) (vb : Nat) : AF w wr base g A c l B n S vb none 0 [] 0 :=
  ⟨h.led, h.ok, OwnF.nil _ _, by simpa [nus] using h.map, by simpa [nus] using h.sub, fun j p hj => by simp at hj, h.lo, h.bel, h.hb, h.hbase, h.hbw⟩
/-- A call that let some go. -/
theorem ON.went {w W w' : World} {base g : Nat} {A : Option Addr} {c : Nat} {l l' : LG} {B n : Nat} {S : List Int} (h : ON w W base g A c l B n S) {A2 : Option Addr} {c2 : Nat} {G : List PK}
    (ho : OwnP w' W.heap.size A2 c2 G) (ht : LTo0 W w' base g A l') (hp : Parts l.op G l'.op) (ok : LgOk l') (hnx : l'.nx = l.nx) : ∃ A' c', AF w w' base g A' c' l' B n S W.heap.size A2 c2 G 0 := by
  obtain ⟨⟨A', c', h1, h2⟩, f⟩ := ht
  refine ⟨A', c', ⟨h1, ok, ho, ?_, fun x hx => h.sub x ((hp.mem x).2 hx), fun j p hj => hp.apart h.ok.up hj, fun x hx => by rw [hnx]; exact h.lo x hx, h.bel.trans ((h.led.belowS f h.hbw).mono h.hbase), h.hb, h.hbase, Nat.le_trans h.hbw f.size⟩⟩
  have := h.map.frm f (h.map.ledS h.led)
  rw [fc_congr (fun x => hp.mem x)] at this
  exact this
theorem sendE_ge {l : LG} {p : PK} (he : sendE l p = 0) : l.nx ≤ p.nu := by
  unfold sendE at he
  by_cases h1 : p.si < 0 ∨ 4611686018427387903 < p.nu ∨ 4611686018427387903 < p.se
  · rw [if_pos h1] at he; omega
  · rw [if_neg h1] at he
    by_cases h2 : p.nu < l.nx
    · rw [if_pos h2] at he; omega
    · omega
/-- A packet sent. -/
theorem ON.sent {w W w' w9 : World} {base g : Nat} {A : Option Addr} {c : Nat} {l : LG} {B n : Nat} {S : List Int} (h : ON w W base g A c l B n S) {p : PK} (ht : LTo W w' base g A (lSend l p)) (he : sendE l p = 0) (hn : 0 ≤ p.nu) (hs : 0 ≤ p.se) (hm : p.si ≤ 9223372036854775807)
    (h9 : MapC w9 B (n + 1) (fun y => if y = p.nu then some 1 else fc S (nus l.op) y)) (g9 : w'.grownBy w9 (some B)) : ∃ A' c', ON w w9 base g A' c' (lSend l p) B (n + 1) (S ++ [p.nu]) := by
  obtain ⟨⟨A', c', h1, h2⟩, f⟩ := ht
  have hl : lSend l p = ⟨l.op ++ [p], p.nu + 1, l.ak, l.hs⟩ := by unfold lSend; rw [if_pos he]
  have hx : p.nu ∉ S := fun hx => by
    have := (h.lo _ hx).2
    have := sendE_ge he
    omega
  have hnus : nus (lSend l p).op = nus l.op ++ [p.nu] := by rw [hl]; simp [nus]
  have M1 := h.map.frm f (h.map.ledS h.led)
  refine ⟨A', c', ⟨h1.map M1 g9, lSend_ok h.ok hn hs hm, ?_, ?_, ?_, ?_, h.hb, h.hbase, Nat.le_trans (Nat.le_trans h.hbw f.size) g9.size⟩⟩
  · rw [hnus, ← (fc_send hx h.sub).2]
    exact h9
  · rw [hnus]
    intro x hx2
    rcases List.mem_append.1 hx2 with h3 | h3
    · exact List.mem_append_left _ (h.sub x h3)
    · exact List.mem_append_right _ h3
  · intro x hx2
    have hge : l.nx ≤ p.nu := sendE_ge he
    rw [hl]
    rcases List.mem_append.1 hx2 with h3 | h3
    · have := h.lo x h3; simp only; omega
    · simp at h3; subst h3; simp only; omega
  · have b1 := h.bel.trans ((h.led.belowS f h.hbw).mono h.hbase)
    exact b1.grown g9 b1.size (fun r hr => by injection hr with hr; have := h.hb; omega)
/-- A mark set. -/
theorem AF.mark {w wx w9 : World} {base g : Nat} {A : Option Addr} {c : Nat} {l : LG} {B n : Nat} {S : List Int} {vb : Nat} {A2 : Option Addr} {c2 : Nat} {G : List PK} {k : Nat} {p : PK} (h : AF w wx base g A c l B n S vb A2 c2 G k) (hx : G[k]? = some p)
    (h9 : MapC w9 B (n + k + 1) (fun y => if y = p.nu then some 11 else fc S (nus l.op ++ nus (G.drop k)) y)) (g9 : wx.grownBy w9 (some B)) : AF w w9 base g A c l B n S vb A2 c2 G (k + 1) := by
  have hm : p.nu ∈ S := h.sub _ (List.mem_append_right _ (List.mem_map.2 ⟨p, List.mem_of_getElem? hx, rfl⟩))
  refine ⟨h.led.map h.map g9, h.ok, ?_, ?_, h.sub, h.ap, h.lo, h.bel.grown g9 h.bel.size (fun r hr => by injection hr with hr; have := h.hb; omega), h.hb, h.hbase, Nat.le_trans h.hbw g9.size⟩
  · exact OwnV.apart h.own g9 (fun k hk => h.map.own h.own k hk)
  · rw [fc_congr (drop_nus hx l.op), (fc_gone hm (h.ap k p hx)).2] at h9
    exact h9
theorem AF.val {w wx : World} {base g : Nat} {A : Option Addr} {c : Nat} {l : LG} {B n : Nat} {S : List Int} {vb : Nat} {A2 : Option Addr} {c2 : Nat} {G : List PK} {k : Nat} {p : PK} (h : AF w wx base g A c l B n S vb A2 c2 G k) (hx : G[k]? = some p) :
    (fc S (nus l.op ++ nus (G.drop k)) p.nu).getD 0 = 1 := by
  have hm : p.nu ∈ S := h.sub _ (List.mem_append_right _ (List.mem_map.2 ⟨p, List.mem_of_getElem? hx, rfl⟩))
  rw [fc_congr (drop_nus hx l.op)]
  exact (fc_gone hm (h.ap k p hx)).1
theorem AF.done {w wx : World} {base g : Nat} {A : Option Addr} {c : Nat} {l : LG} {B n : Nat} {S : List Int} {vb : Nat} {A2 : Option Addr} {c2 : Nat} {G : List PK} {k : Nat} (h : AF w wx base g A c l B n S vb A2 c2 G k) (hk : G.length ≤ k) :
    ON w wx base g A c l B (n + k) S := by
  have := h.map
  rw [List.drop_eq_nil_of_le hk, show nus ([] : List PK) = [] from rfl, List.append_nil] at this
  exact ⟨h.led, h.ok, this, fun x hx => h.sub x (List.mem_append_left _ hx), h.lo, h.bel, h.hb, h.hbase, h.hbw⟩
theorem ON.kept {w W w' : World} {base g : Nat} {A : Option Addr} {c : Nat} {l : LG} {B n : Nat} {S : List Int} (h : ON w W base g A c l B n S) (ht : LTo W w' base g A l) : ∃ A' c', ON w w' base g A' c' l B n S := by
  obtain ⟨⟨A', c', h1, h2⟩, f⟩ := ht
  exact ⟨A', c', h1, h.ok, h.map.frm f (h.map.ledS h.led), h.sub, h.lo, h.bel.trans ((h.led.belowS f h.hbw).mono h.hbase), h.hb, h.hbase, Nat.le_trans h.hbw f.size⟩
theorem ON.still {w W w' : World} {base g : Nat} {A : Option Addr} {c : Nat} {l : LG} {B n : Nat} {S : List Int} (h : ON w W base g A c l B n S) (hg : W.grownBy w' none) : ON w w' base g A c l B n S := by
  have hb : Below W.heap.size W w' := (Below.refl _ _).grown hg (Nat.le_refl _) (fun r hr => by cases hr)
  exact ⟨h.led.below hb, h.ok, h.map.below hb, h.sub, h.lo, h.bel.trans (hb.mono h.bel.size), h.hb, h.hbase, Nat.le_trans h.hbw hg.size⟩
theorem lSend_len (l : LG) (p : PK) : (lSend l p).op.length ≤ l.op.length + 1 := by
  unfold lSend
  split
  · simp
  · omega
theorem fc_vals {S O : List Int} {x : Int} (h : (fc S O x).isSome = true) : (x ∈ O ∧ (fc S O x).getD 0 = 1) ∨ (x ∉ O ∧ (fc S O x).getD 0 = 11) := by
  unfold fc at h ⊢
  by_cases hx : x ∈ O
  · left; rw [if_pos hx]; exact ⟨hx, rfl⟩
  · right
    rw [if_neg hx] at h ⊢
    by_cases hs : x ∈ S
    · rw [if_pos hs]; exact ⟨hx, rfl⟩
    · rw [if_neg hs] at h; cases h
theorem lClear_ok {l : LG} (h : LgOk l) : LgOk ⟨[], l.nx, l.ak, l.hs⟩ := ⟨fun p hp => by simp at hp, List.Pairwise.nil, h.nx0, h.nx1, h.ak0, h.ak1, h.no⟩
theorem clear_parts (l : LG) : Parts l.op l.op [] := ⟨fun _ => true, (List.filter_eq_self.2 (by simp)).symm, (List.filter_eq_nil_iff.2 (by simp)).symm⟩
theorem lAck_nx (l : LG) (r : List (Int × Int)) : (lAck l r).nx = l.nx := by unfold lAck; split <;> rfl
end Go.Proofs.Ytfalnaagfndgfaa
