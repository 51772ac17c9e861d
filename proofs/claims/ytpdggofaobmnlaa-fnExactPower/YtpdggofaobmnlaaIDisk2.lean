/- The program's Written, Flushed and Lost. -/
import Derived.Test.YtpdggofaobmnlaaIDisk
namespace Go.Proofs.Ytpdggofaobmnlaa
open Go.ChangeShapes Go.WideShapes Go.ChangeAt Go.RowKit

/- 'copy' of a list onto one of the call's own that is as long. -/
theorem run_copyL (w : World) (ty : TypeId) (u v : Value) (xs ys : List Int) (base : Nat) (ou : Own w base u xs) (rv : Reads w v ys) (hl : ys.length = xs.length) (h1 : 1 ≤ xs.length) :
    ∃ w', (Builtin.copy_ #[24, 24] ty #[u, v]).run Try.prog w = .ok (goInt xs.length) w' ∧ Own w' base u ys ∧ w.grownBy w' u.ownBlock := by
  rcases ou.2 with ⟨_, h0⟩ | ⟨g, cap, cur, rfl, hb, hg, hnc, hcm, hcs, ht⟩
  · omega
  · obtain ⟨ao, c2, rfl, _, _, hc⟩ := rv
    rcases hc with e | ⟨b, off, rfl, hcell⟩
    · subst e; simp at hl; omega
    · have hsz : (Try.prog.info? 2).map (·.size) = some 1 := by
        obtain ⟨i0, hi, hz0, hz1, hz2⟩ := info_parts Try.infoI
        simp [hi, hz1]
      have hsrc : ∀ j z, (ys.map (Value.int .i64))[j]? = some z → w.cell? ((⟨b, off, none⟩ : Addr).add j) = some z := by
        intro j z hj
        have hlt : j < ys.length := by
          rcases Nat.lt_or_ge j ys.length with h | h
          · exact h
          · rw [List.getElem?_eq_none (by simpa using h)] at hj; cases hj
        rw [show (⟨b, off, none⟩ : Addr).add j = ⟨b, off + j, none⟩ by unfold Addr.add; split <;> simp_all]
        rw [hcell j hlt]
        simp [List.getD, hlt] at hj ⊢
        exact hj
      have hone : ∀ z ∈ ys.map (Value.int .i64), z.oneCell' = true := by
        intro z hz
        obtain ⟨x, _, rfl⟩ := List.mem_map.1 hz
        rfl
      have hcz : cur.size = cap := by simpa using hcs
      have hrun := run_copy_row (P := Try.prog) w 24 24 ty 2 g 0 xs.length cap ⟨b, off, none⟩ ys.length c2 cur _ (ys.map (Value.int .i64)) Try.underlying24 hsz hg (by simp [hl]) hsrc (by simp; omega) hone
      rw [show goInt ((ys.map (Value.int .i64)).length : Nat) = goInt (xs.length : Nat) by simp [hl]] at hrun
      refine ⟨_, hrun, ⟨by simp, .inr ⟨g, cap, _, by rw [hl], hb, setRow_heap w g _ _ _ _ hg, by omega, hcm, ?_, ?_⟩⟩, ?_⟩
      · simp; omega
      · simp [hl]
      · exact grownRow w g _

theorem wpList_copyL {ops : Array Oper} {rest : List Oper} {o : Oper} {a : Act} {w : World} {Q : Exit → Act → World → Prop} (hgd : o.guard = none) (d s : Operand)
    (ho : o.op = .call { callee := .builtin .copy, args := #[d, s], argTypes := #[24, 24] }) (u v : Value) (xs ys : List Int) (base : Nat) (hd : a.eval d = u) (hs : a.eval s = v)
    (ou : Own w base u xs) (rv : Reads w v ys) (hl : ys.length = xs.length) (h1 : 1 ≤ xs.length)
    (h : ∀ w', Own w' base u ys → w.grownBy w' u.ownBlock → wpList Try.prog ops Q rest (a.put o.dst (goInt xs.length)) w') : wpList Try.prog ops Q (o :: rest) a w := by
  refine wpList_plain hgd fun K hK => ?_
  obtain ⟨w', hrun, h2, h3⟩ := run_copyL w o.type u v xs ys base ou rv hl h1
  unfold Oper.wp
  simp [execOp, ho, resolve, invoke, builtin, hd, hs, hrun, Result.andThen]
  exact hK _ _ (h w' h2 h3)

theorem step_copyL {ops : Array Oper} {o : Oper} {a : Act} {w : World} {K : Act → World → Prop} {Q : Exit → Act → World → Prop} {E : Prop} (hgd : o.guard = none) (d s : Operand)
    (ho : o.op = .call { callee := .builtin .copy, args := #[d, s], argTypes := #[24, 24] }) (u v : Value) (xs ys : List Int) (base : Nat) (hd : a.eval d = u) (hs : a.eval s = v)
    (ou : Own w base u xs) (rv : Reads w v ys) (hl : ys.length = xs.length) (h1 : 1 ≤ xs.length)
    (h : ∀ w', Own w' base u ys → w.grownBy w' u.ownBlock → K (a.put o.dst (goInt xs.length)) w') : if Region.wanted o (yielded ops a.tmps) = true then Oper.wp Try.prog o a w K Q else E := by
  have hw : Region.wanted o (yielded ops a.tmps) = true := by simp [Region.wanted, hgd]
  rw [if_pos hw]
  obtain ⟨w', hrun, h2, h3⟩ := run_copyL w o.type u v xs ys base ou rv hl h1
  unfold Oper.wp
  simp [execOp, ho, resolve, invoke, builtin, hd, hs, hrun, Result.andThen]
  exact h w' h2 h3

theorem apart_slice {g n cap : Nat} {z : Value} (h : apart (.slice (some ⟨g, 0, none⟩) n cap) z) : z.ownBlock = none ∨ z.ownBlock ≠ some g := h.2
end Go.Proofs.Ytpdggofaobmnlaa
