/- Copiers in regions that draw their order: what is known of one in every later world, and copiers that a call answers. -/
import Derived.Test.YtelfpdjidppblaaGiv
import Derived.Test.YtelfpdjidppblaaM3
import Derived.Test.YtelfpdjidppblaaSCop
import Derived.Test.YtelfpdjidppblaaMine
import Derived.Test.YtelfpdjidppblaaMem
namespace Go.Proofs.Ytelfpdjidppblaa
open Go.ChangeShapes Go.WideShapes Go.ChangeAt Go.RowKit

def CpI (w : World) (g : Nat) (v : Value) (c : Cp) : Prop := StB w g 26 (cpA v c) ∧ Mine w 0 v c.ts
theorem CpI.below {w w' : World} {g : Nat} {v : Value} {c : Cp} (h : CpI w g v c) (b : Below w.heap.size w w') : CpI w' g v c := ⟨h.1.below b, h.2.below b⟩
theorem CpI.reads {w : World} {g : Nat} {v : Value} {c : Cp} (h : CpI w g v c) : Reads w v c.ts := h.2.reads
theorem CpI.new {w : World} {base : Nat} {v : Value} {c : Cp} (h : Mine w base v c.ts) : CpI (w.alloc (.cells (cpA v c) 26)) w.heap.size v c :=
  ⟨StB.new w _ _, (h.mono (Nat.zero_le _)).below ((Below.refl _ _).alloc (Nat.le_refl _) _)⟩
/- Another copier is written over. -/
theorem CpI.kept {w w' : World} {g k : Nat} {v : Value} {c : Cp} {ds : Array Value} (h : CpI w g v c) (hk : StB w k 26 ds) (G : w.grownBy w' (some k)) (hne : g ≠ k) : CpI w' g v c :=
  ⟨h.1.kept G (fun e => hne (Option.some.inj e)), h.2.putBy hk (by decide) G⟩
theorem CpI.cell {w : World} {g : Nat} {v : Value} {c : Cp} (h : CpI w g v c) (j : Nat) {x : Value} (e : (cpA v c)[j]? = some x) : w.cell? ⟨g, j, none⟩ = some x := h.1.cell j e
theorem CpI.at {w : World} {g : Nat} {a : Option Addr} {n cap : Nat} {c : Cp} (h : CpI w g (.slice a n cap) c) (j : Nat) (hj : j < n) : ∃ b off, a = some ⟨b, off, none⟩ ∧ n ≤ cap ∧ cap ≤ maxLen ∧ w.cell? ⟨b, off + j, none⟩ = some (.int .i64 (c.ts.getD j 0)) := by
  obtain ⟨-, h1, h2, h3⟩ := reads_cells h.2.reads
  obtain ⟨b, off, e, h4⟩ := h3 j hj
  exact ⟨b, off, e, h1, h2, h4⟩
/- A copier is answered. -/
def cpG (c : Cp) : GSpec :=
  ⟨fun u => ∃ ao ac, u = .agg #[.int .i64 c.tr, .bool c.op, .int .i64 c.di, .int .i64 c.wa, .slice ao c.ts.length ac],
   fun u x => ∀ n1 b n2 n3 v, u = .agg #[n1, b, n2, n3, v] → Mine x 0 v c.ts⟩
theorem cpG_later {c : Cp} {u : Value} {x y : World} (hx : (cpG c).F u x) (b : Later x y) : (cpG c).F u y := fun n1 b' n2 n3 v e => (hx n1 b' n2 n3 v e).below b
theorem cpG_of {P : Program} {f : FuncId} {args : Array Value} {w : World} {c : Cp} (hc : Calls P f args w fun e w' => ∃ u, e = .returned (.agg #[.int .i64 c.tr, .bool c.op, .int .i64 c.di, .int .i64 c.wa, u]) ∧ Own w' w.heap.size u c.ts ∧ Below w.heap.size w w') :
    Calls P f args w (fun e w'' => ∃ u, e = .returned u ∧ (cpG c).V u ∧ (cpG c).F u w'' ∧ Later w w'') := by
  refine hc.mono ?_
  rintro e w' ⟨u, rfl, o, bl⟩
  obtain ⟨ao, ac, rfl⟩ := reads_form o.reads
  exact ⟨_, rfl, ⟨ao, ac, rfl⟩, fun n1 b n2 n3 v e => by cases e; exact .inl (o.mono (Nat.zero_le _)), bl⟩
end Go.Proofs.Ytelfpdjidppblaa
/- likeInts answers whether two lists are the same. -/
namespace Go.Proofs.Ytelfpdjidppblaa
open Go.ChangeShapes Go.WideShapes Go.ChangeAt Go.RowKit

set_option maxRecDepth 20000 in
set_option maxHeartbeats 400000 in
theorem like_any (va vb : Value) (xs ys : List Int) (w : World) (ha : Reads w va xs) (hb : Reads w vb ys) (hbig : xs.length ≤ 1099511627776) :
    Calls Try.prog 66 #[va, vb] w fun e w' => e = .returned (.bool (decide (xs = ys))) ∧ ∃ n, w' = w.drewN n := by
  obtain ⟨ao, ca, rfl, hla, ⟨hma, -⟩, hca⟩ := ha
  obtain ⟨bo, cb, rfl, hlb, ⟨hmb, -⟩, hcb⟩ := hb
  by_cases hlen : xs.length = ys.length
  · obtain ⟨n, hn⟩ : ∃ n, n = xs.length := ⟨_, rfl⟩
    rw [← hlen] at hlb hcb ⊢
    rw [← hn] at hla hlb hca hcb hbig ⊢
    have HN : Hid (n = xs.length ∧ n = ys.length) := ⟨hn, hn.trans hlen⟩
    clear hn hlen hma hmb
    have hcell : ∀ j, j < n → ∃ b off b' off', ao = some ⟨b, off, none⟩ ∧ bo = some ⟨b', off', none⟩ ∧ w.cell? ⟨b, off + j, none⟩ = some (.int .i64 (xs.getD j 0)) ∧ w.cell? ⟨b', off' + j, none⟩ = some (.int .i64 (ys.getD j 0)) := by
      intro j hj
      rcases hca with e | ⟨b, off, e, h4⟩
      · have := HN.out.1; rw [e] at this; simp at this; omega
      · rcases hcb with e' | ⟨b', off', e', h4'⟩
        · have := HN.out.2; rw [e'] at this; simp at this; omega
        · exact ⟨b, off, b', off', e, e', h4 j hj, h4' j hj⟩
    clear hca hcb
    go_enter Try.func66, Try.ntmps66
    go_wp2
    go_loopw [5] (fun i wr => ∃ j q : Nat, j ≤ n ∧ i = .int .i64 j ∧ Hid (xs.take j = ys.take j) ∧ wr = w.drewN q) (fun i _ => n - (intOf i).toNat)
    case atStart => exact ⟨0, 0, Nat.zero_le _, rfl, by simp [Hid], rfl⟩
    case round =>
      obtain ⟨j, q, hj, rfl, ht, rfl⟩ := hrel
      by_cases hlt : (j : Int) < (n : Int)
      · obtain ⟨b, off, b', off', rfl, rfl, hc1, hc2⟩ := hcell j (by omega)
        clear hcell
        obtain ⟨x, hx⟩ : ∃ x, x = xs.getD j 0 := ⟨_, rfl⟩
        obtain ⟨y, hy⟩ : ∃ y, y = ys.getD j 0 := ⟨_, rfl⟩
        rw [← hx] at hc1
        rw [← hy] at hc2
        have HX : Hid (x = xs.getD j 0 ∧ y = ys.getD j 0) := ⟨hx, hy⟩
        clear hx hy
        by_cases hxy : (x != y) = true
        · go_wp2
          go_quiet (fail)
          go_wp2
          go_ret
          exact ⟨ret_bool (by
            have h1 : x ≠ y := by simpa using hxy
            have h2 : xs ≠ ys := ne_of_getD (j := j) (by rw [← HX.out.1, ← HX.out.2]; exact h1)
            simp [h2]), ⟨_, World.drewN_drewN ..⟩⟩
        · go_wp2
          go_quiet (fail)
          go_wp2
          go_roundw
          case rel =>
            have h1 : x = y := by simpa using hxy
            exact ⟨j + 1, _, by omega, by go_num, take_step ht (by have := HN.out.1; omega) (by have := HN.out.2; omega) (by rw [← HX.out.1, ← HX.out.2]; exact h1), rfl⟩
          case measure => simp [intOf]; omega
      · go_wp2
        go_ret
        exact ⟨ret_bool (by
          have h1 : xs = ys := by
            have h2 := ht.out
            rw [List.take_of_length_le (by have := HN.out.1; omega), List.take_of_length_le (by have := HN.out.2; omega)] at h2
            exact h2
          simp [h1]), ⟨_, rfl⟩⟩
  · have hne : ((xs.length : Int) != (ys.length : Int)) = true := by simp; omega
    have he : decide (xs = ys) = false := by
      have : xs ≠ ys := fun h => hlen (by rw [h])
      simp [this]
    rw [he]
    clear he hlen hca hcb
    go_enter Try.func66, Try.ntmps66
    go_wp2
    go_ret
    exact ⟨rfl, 0, rfl⟩

end Go.Proofs.Ytelfpdjidppblaa
