/- The walk of a region that draws its order and ends in two stores, where an operation without memory (p) may come before or behind the first of them (z). -/
import Derived.Test.YtlkkpolnllbljaaGreatDoorM21
import Derived.Test.YtlkkpolnllbljaaGreatDoorM1
import Derived.Below
import Derived.Laws.Tables
import Derived.Laws.ResultCell
import Derived.Test.YtlkkpolnllbljaaGreatDoorM2
import Derived.Test.YtlkkpolnllbljaaGreatDoorM3
import Derived.Deep.DeepCutAuto
import Derived.Test.YtlkkpolnllbljaaGreatDoorM15
import Derived.Test.YtlkkpolnllbljaaGreatDoorM11
import Derived.Test.YtlkkpolnllbljaaGreatDoorM20
namespace Go.Proofs.YtlkkpolnllbljaaGreatDoor
open Go.ChangeShapes Go.WideShapes Go.ChangeAt Go.RowKit

/- The operation is done for sure, and gives nothing. -/
def Sure (P : Program) (o : Oper) (a : Act) (w : World) (K : World → Prop) : Prop := ∃ w', (execOp a.eval o).run P w = .ok .skip w' ∧ K w'
theorem Sure.mono {P : Program} {o : Oper} {a : Act} {w : World} {K K' : World → Prop} (h : Sure P o a w K) (k : ∀ w, K w → K' w) : Sure P o a w K' := by
  obtain ⟨w', e, h⟩ := h
  exact ⟨w', e, k _ h⟩
theorem sure_put {t : TypeId} {n : Nat} (hS : IsS t n) {o : Oper} {a : Act} {w : World} {K : World → Prop} (x y : Operand) (ho : o.op = .store t x y)
    (g : Nat) (cs ds : Array Value) (hx : a.eval x = .pointer (some ⟨g, 0, none⟩)) (hy : a.eval y = .agg cs) (hn : cs.size = n) (hd : ds.size = n) (h1 : cs.all (·.oneCell') = true) (hr : StB w g t ds)
    (h : ∀ w', StB w' g t cs → w.grownBy w' (some g) → K w') : Sure Tryz.prog o a w K := by
  refine ⟨w.setRow g cs, ?_, h _ (setRow_heap w g _ _ _ _ hr) (grownRowS w g _)⟩
  unfold execOp
  simp only [ho, hx, hy, Instr.storeAt, Instr.sureAddr, Sem.run_bind, Sem.run_pure, Result.andThen_ok, run_storeVar_row w g t t ds cs hr (by rw [hS.2, hn]) (by rw [hd, hn]) h1]
theorem Sure.op {P : Program} {ops : Array Oper} {Q : Exit → Act → World → Prop} {i : Nat} {o : Oper} {a : Act} {w : World} {K : Act → World → Prop} (hi : ops[i]? = some o) (hg : o.guard = none) (hd : o.dst = none) (h : Sure P o a w (K a)) : wpOp P ops Q i K a w := by
  obtain ⟨w', e, h⟩ := h
  have hw : Region.wanted o (yielded ops a.tmps) = true := by simp [Region.wanted, hg]
  unfold wpOp
  rw [hi]
  dsimp only
  rw [if_pos hw]
  refine .inl ?_
  unfold Oper.wp
  rw [e]
  simp only [Oper.upon, hd, Act.put]
  exact h
section
variable {P : Program} {md : Region.Mode} {ops : Array Oper} {C : World → Prop} {E : Oper → Act → Option GSpec} {R : World → World → Prop}
theorem any_of_giv2 {J : Act → Prop} {D : World → World → Prop} (hJ : ∀ (i : Nat) (o : Oper) a v, ops[i]? = some o → J a → J (Act.put a o.dst v)) (hC : ∀ x y, C x → R x y → C y) (hE : ∀ o a s, E o a = some s → ∀ u x y, s.F u x → R x y → s.F u y) {z p : Nat} {oz op : Oper} {Q' : Exit → Act → World → Prop}
    (hoz : ops[z]? = some oz) (hop : ops[p]? = some op) (hpz : p ≠ z) (hgz : oz.guard = none) (hdz : oz.dst = none) (hgp : op.guard = none) (hEp : ∀ a, E op a = none)
    (hev : ∀ a v, execOp (Act.put a op.dst v).eval oz = execOp a.eval oz)
    (hpure : ∀ (a : Act) w w' v, J a → C w → D w w' → Oper.quietUpon P (fun _ => False) w v ((execOp a.eval op).run P w) → Oper.quietUpon P (fun _ => False) w' v ((execOp a.eval op).run P w'))
    (hz : ∀ listed, z ∈ Region.ready md ops listed → ∀ j ∈ Region.ready md ops listed, j = z ∨ j = p)
    (hzp : ∀ listed, z ∈ Region.ready md ops listed → p ∈ Region.ready md ops listed → ∀ j ∈ Region.ready md ops (listed.setIfInBounds z true), j = p) :
    ∀ (fuel : Nat) (listed : Array Bool) (a : Act) (G : Known) (w : World), J a → Good E G → Has C G w → anyGiv P md ops C E R z (fun k listed a w => z ∈ Region.ready md ops listed ∧ Sure P oz a w (fun w1 => D w w1 ∧ wpAny P md ops Q' (1 + k) (listed.setIfInBounds z true) a w1)) fuel listed a G → wpAny P md ops Q' (2 + fuel) listed a w
  | fuel, listed, a, G, w, ja, hg, hw, k => by
    have fin : ∀ k, (∀ j ∈ Region.ready md ops listed, j = z) → (z ∈ Region.ready md ops listed ∧ Sure P oz a w (fun w1 => D w w1 ∧ wpAny P md ops Q' (1 + k) (listed.setIfInBounds z true) a w1)) → wpAny P md ops Q' (2 + k) listed a w := by
      intro k hall hT
      have e : 2 + k = (1 + k) + 1 := by omega
      rw [e]
      refine ⟨fun e => absurd hT.1 (by rw [e]; simp), fun i hi => ?_⟩
      obtain rfl := hall i hi
      exact (hT.2.mono fun _ h => h.2).op hoz hgz hdz
    cases fuel with
    | zero =>
      obtain ⟨k1, k2⟩ := k ⟨w, hw⟩
      exact fin 0 k1 (k2 w hw)
    | succ fuel =>
      obtain ⟨k1, k2⟩ := k ⟨w, hw⟩
      by_cases hall : ∀ j ∈ Region.ready md ops listed, j = z
      · exact fin (fuel + 1) hall (k1 hall w hw)
      have e2 : 2 + (fuel + 1) = (2 + fuel) + 1 := by omega
      rw [e2]
      refine ⟨fun e => absurd (fun j hj => by rw [e] at hj; cases hj) hall, fun i hi => ?_⟩
      by_cases hiz : i = z
      · subst hiz
        have hp : p ∈ Region.ready md ops listed := by
          have : ∃ j ∈ Region.ready md ops listed, j ≠ i := by
            by_cases hh : ∃ j ∈ Region.ready md ops listed, j ≠ i
            · exact hh
            · exact absurd (fun j hj => by by_cases e : j = i; exact e; exact absurd ⟨j, hj, e⟩ hh) hall
          obtain ⟨j, hj, hji⟩ := this
          rcases hz listed hi j hj with e | e
          · exact absurd e hji
          · subst e; exact hj
        have h1 := k2 p hp hpz
        unfold oneOp at h1
        rw [hop] at h1
        dsimp only at h1
        have hwp : Region.wanted op (yielded ops a.tmps) = true := by simp [Region.wanted, hgp]
        rw [if_pos hwp] at h1
        unfold one at h1
        rw [hEp] at h1
        dsimp only at h1
        obtain ⟨v, q1, q2⟩ := h1
        have hq := q1 w hw.base
        have hzr := ready_mono hi (Ne.symm hpz)
        have hall' : ∀ j ∈ Region.ready md ops (listed.setIfInBounds p true), j = i := fun j hj => by
          rcases hz _ hzr j hj with e | e
          · exact e
          · subst e
            have h0 := (mem_ready.1 hp).1
            have h2 := (mem_ready.1 hj).1
            rcases Nat.lt_or_ge j listed.size with h' | h'
            · simp [h'] at h2
            · simp [Array.getElem?_eq_none h'] at h0
        have hT : Sure P oz (a.put op.dst v) w (fun w1 => D w w1 ∧ wpAny P md ops Q' (1 + fuel) ((listed.setIfInBounds p true).setIfInBounds i true) (a.put op.dst v) w1) := by
          cases fuel with
          | zero => exact ((q2 ⟨w, hw⟩).2 w hw).2
          | succ f => exact ((q2 ⟨w, hw⟩).1 hall' w hw).2
        obtain ⟨w', er, hD, hT⟩ := hT
        rw [hev] at er
        refine Sure.op hoz hgz hdz ⟨w', er, ?_⟩
        have e3 : 2 + fuel = (1 + fuel) + 1 := by omega
        rw [e3]
        have hpr := ready_mono hp hpz
        refine ⟨fun e => absurd hpr (by rw [e]; simp), fun j hj => ?_⟩
        obtain rfl := hzp listed hi hp j hj
        unfold wpOp
        rw [hop]
        dsimp only
        rw [if_pos hwp]
        refine .inl ?_
        unfold Oper.wp
        have hq' := hpure a w w' v ja hw.1 hD hq
        rw [Array.setIfInBounds_comm _ _ hpz] at hT
        generalize (execOp a.eval op).run P w' = r at hq'
        cases r with
        | halt x w' => simp only [Oper.quietUpon] at hq'
        | ok n w' =>
          cases n <;> simp only [Oper.quietUpon] at hq'
          · obtain ⟨rfl, rfl⟩ := hq'; simp only [Oper.upon]; exact hT
          · obtain ⟨rfl, rfl⟩ := hq'; simp only [Oper.upon]; exact hT
          · exact absurd hq'.2 noCall
      have ih := any_of_giv2 hJ hC hE hoz hop hpz hgz hdz hgp hEp hev hpure hz hzp fuel (Q' := Q')
      have := k2 i hi hiz
      unfold oneOp at this
      unfold wpOp
      split
      · rename_i ho; rw [ho] at this; exact ih _ a G w ja hg hw this
      · rename_i o ho
        rw [ho] at this
        dsimp only at this
        split
        · rename_i hwant
          rw [if_pos hwant] at this
          refine .inl ?_
          unfold one at this
          unfold Oper.wp
          split at this
          · rename_i s hs
            have hr := this.1 w hw.base
            generalize (execOp a.eval o).run P w = r at hr
            cases r with
            | halt x w' => simp only [givesUpon] at hr
            | ok n w' =>
              have go : ∀ u w'', s.V u → s.F u w'' → R w w'' → wpAny P md ops Q' (2 + fuel) (listed.setIfInBounds i true) (a.put o.dst u) w'' := by
                intro u w'' hV hF hL
                refine ih _ _ _ w'' (hJ _ _ _ _ ho ja) (hg.cons hs u) ?_ (this.2 u hV)
                have hh := hw.later hC hE hg hL
                refine ⟨hh.1, fun g hG => ?_⟩
                rw [List.mem_cons] at hG
                rcases hG with rfl | hG
                · exact hF
                · exact hh.2 g hG
              cases n <;> simp only [givesUpon] at hr
              · simp only [Oper.upon]; exact go _ _ hr.1 hr.2.1 hr.2.2
              · simp only [Oper.upon]; exact go _ _ hr.1 hr.2.1 hr.2.2
              · obtain ⟨rfl, hc⟩ := hr
                simp only [Oper.upon]
                refine hc.mono ?_
                rintro e w'' ⟨u, rfl, hV, hF, hL⟩
                exact go u w'' hV hF hL
          · rename_i hs
            obtain ⟨v, h1, h2⟩ := this
            have hr := h1 w hw.base
            generalize (execOp a.eval o).run P w = r at hr
            cases r with
            | halt x w' => simp only [Oper.quietUpon] at hr
            | ok n w' =>
              cases n <;> simp only [Oper.quietUpon] at hr
              · obtain ⟨rfl, rfl⟩ := hr; simp only [Oper.upon]; exact ih _ _ _ _ (hJ _ _ _ _ ho ja) hg hw h2
              · obtain ⟨rfl, rfl⟩ := hr; simp only [Oper.upon]; exact ih _ _ _ _ (hJ _ _ _ _ ho ja) hg hw h2
              · exact absurd hr.2 noCall
        · rename_i hwant; rw [if_neg hwant] at this; exact ih _ _ _ _ (hJ _ _ _ _ ho ja) hg hw this
end
/- The last but one waits for all but 'p'. -/
def waitsBut (l : List Oper) (i p : Nat) : Bool := (List.range i).all fun j => j == p || (l[i]?).any fun o => o.after.any fun e => Region.binds .any e && e.on == j
theorem waits_but {l : List Oper} {i p : Nat} (hL : waitsBut l i p = true) {listed : Array Bool} (hz : i ∈ Region.ready .any l.toArray listed) {j : Nat} (hlt : j < i) (hp : j ≠ p) : listed.getD j true = true := by
  obtain ⟨-, o, ho, hall⟩ := mem_ready.1 hz
  have := List.all_eq_true.1 hL j (List.mem_range.2 hlt)
  have ho' : l[i]? = some o := by simpa using ho
  rw [ho'] at this
  simp only [Option.any_some, Array.any_eq_true', Bool.or_eq_true, beq_iff_eq] at this
  obtain ⟨ed, hed, hb⟩ := this.resolve_left hp
  simp only [Bool.and_eq_true, beq_iff_eq] at hb
  have h3 := hall ed hed hb.1
  rw [hb.2] at h3
  rcases Nat.lt_or_ge j listed.size with h' | h'
  · simpa [h'] using h3
  · simp [Array.getElem?_eq_none h']
def quietB : Op → Bool
  | .extract _ _ => true
  | _ => false
theorem pure_extract {P : Program} {o : Oper} (h : quietB o.op = true) (a : Act) (w w' : World) (v : Value) (hq : Oper.quietUpon P (fun _ => False) w v ((execOp a.eval o).run P w)) : Oper.quietUpon P (fun _ => False) w' v ((execOp a.eval o).run P w') := by
  unfold quietB at h
  split at h
  · rename_i x j e
    unfold execOp at hq ⊢
    simp only [e] at hq ⊢
    unfold Instr.extract at hq ⊢
    generalize a.eval x = y at hq ⊢
    cases y <;> simp [Oper.quietUpon] at hq ⊢
    rename_i vs
    cases hv : vs[j]? <;> simp [hv] at hq ⊢
    exact hq
  · cases h
theorem wp_region_gs_lastp {P : Program} {C : World → Prop} {E : Oper → Act → Option GSpec} {R : World → World → Prop} (J : Act → Prop) (D : World → World → Prop) (hC : ∀ x y, C x → R x y → C y) (hE : ∀ o a s, E o a = some s → ∀ u x y, s.F u x → R x y → s.F u y)
    {id : Nat} {Q : Exit → Act → World → Prop} {a : Act} {w : World} {l : List Oper} (p : Nat) (oz op : Oper) (hA : ∀ o a dst v, (∀ d, dst = some d → d ∉ o.looksAt l.toArray) → E o (Act.put a dst v) = E o a) (hm : P.follows .mixedOrders = true) (hB : Region.lexB .any l.toArray = true) (hL1 : waitsBut l (l.length - 2) p = true) (hL2 : waitsB l (l.length - 1) = true) (h2 : 2 ≤ l.length) (hp : p < l.length - 2)
    (hoz : l[l.length - 2]? = some oz) (hop : l[p]? = some op) (hgz : oz.guard = none) (hdz : oz.dst = none) (hgp : op.guard = none) (hJ : ∀ (i : Nat) (o : Oper) a v, l.toArray[i]? = some o → J a → J (Act.put a o.dst v)) (ja : J a) (hqp : ∀ (a : Act) w w' v, J a → C w → D w w' → Oper.quietUpon P (fun _ => False) w v ((execOp a.eval op).run P w) → Oper.quietUpon P (fun _ => False) w' v ((execOp a.eval op).run P w')) (hEp : ∀ a, E op a = none) (hev : ∀ a v, execOp (Act.put a op.dst v).eval oz = execOp a.eval oz) (h0 : C w.drew)
    (h : GivS P l.toArray C E R (fun a' G => ∀ w', Has C G w' → Sure P oz a' w' (fun w1 => D w' w1 ∧ wpOp P l.toArray Q (l.length - 1) (fun a'' w'' => Q .normal a'' w'') a' w1)) l.dropLast.dropLast a []) : (Code.region id l.toArray true).wp P Q a w := by
  simp only [Region.lexB, Bool.and_eq_true] at hB
  have hg : Good E [] := fun g hG => by cases hG
  have hlt : ∀ listed, ∀ j ∈ Region.ready .any l.toArray listed, j < l.length := fun listed j hj => by
    obtain ⟨-, oj, hoj, -⟩ := mem_ready.1 hj
    simpa using (Array.getElem?_eq_some_iff.1 hoj).1
  have hno2 : ∀ listed, l.length - 1 ∈ Region.ready .any l.toArray listed → ∀ j ∈ Region.ready .any l.toArray listed, j = l.length - 1 := fun listed hz j hj => by
    have := waits_no hL2 hz hj
    have := hlt listed j hj
    omega
  have hno : ∀ listed, l.length - 2 ∈ Region.ready .any l.toArray listed → ∀ j ∈ Region.ready .any l.toArray listed, j = l.length - 2 ∨ j = p := fun listed hz j hj => by
    have h3 := hlt listed j hj
    by_cases e : j = l.length - 1
    · subst e
      have := hno2 listed hj _ hz
      omega
    · by_cases e' : j = l.length - 2
      · exact .inl e'
      · by_cases ep : j = p
        · exact .inr ep
        · have := waits_but hL1 hz (j := j) (by omega) ep
          rw [(mem_ready.1 hj).1] at this
          cases this
  have hzp : ∀ listed, l.length - 2 ∈ Region.ready .any l.toArray listed → p ∈ Region.ready .any l.toArray listed → ∀ j ∈ Region.ready .any l.toArray (listed.setIfInBounds (l.length - 2) true), j = p := fun listed hz hpr j hj => by
    have hpr' := ready_mono hpr (i := l.length - 2) (by omega)
    by_cases ep : j = p
    · exact ep
    have h3 := hlt _ j hj
    by_cases e : j = l.length - 1
    · subst e
      have := hno2 _ hj _ hpr'
      omega
    by_cases e' : j = l.length - 2
    · subst e'
      have h0 := (mem_ready.1 hz).1
      have h2 := (mem_ready.1 hj).1
      rcases Nat.lt_or_ge (l.length - 2) listed.size with h' | h'
      · simp [h'] at h2
      · simp [Array.getElem?_eq_none h'] at h0
    · have := waits_but hL1 hz (j := j) (by omega) ep
      have h4 := (mem_ready.1 hj).1
      rw [getD_set_ne true (by omega)] at h4
      rw [h4] at this
      cases this
  have step : ∀ listed, Region.lexFrom .any l.toArray 2 (l.length - 2) listed = true → l.length - 2 ∈ Region.ready .any l.toArray listed ∧ l.length - 1 ∈ Region.ready .any l.toArray (listed.setIfInBounds (l.length - 2) true) ∧ Region.ready .any l.toArray ((listed.setIfInBounds (l.length - 2) true).setIfInBounds (l.length - 1) true) = [] := fun listed hl => by
    simp only [Region.lexFrom, Bool.and_eq_true] at hl
    have e : l.length - 2 + 1 = l.length - 1 := by omega
    rw [e] at hl
    exact ⟨by simpa using hl.1.1, by simpa using hl.2.1.1, by simpa using hl.2.2⟩
  have only : ∀ listed, Region.lexFrom .any l.toArray 2 (l.length - 2) listed = true → ∀ j ∈ Region.ready .any l.toArray listed, j = l.length - 2 := fun listed hl j hj => by
    obtain ⟨hr, hr2, -⟩ := step listed hl
    rcases hno listed hr j hj with e | e
    · exact e
    · subst e
      have := hno2 _ hr2 _ (ready_mono hj (i := l.length - 2) (by omega))
      omega
  have hsz : l.dropLast.dropLast.length = l.length - 2 := by simp; omega
  have := giv_lex (P := P) (md := .any) (ops := l.toArray) (z := l.length - 2) (x := 2) (T := fun k listed a w => l.length - 2 ∈ Region.ready .any l.toArray listed ∧ Sure P oz a w (fun w1 => D w w1 ∧ wpAny P .any l.toArray Q (1 + k) (listed.setIfInBounds (l.length - 2) true) a w1)) (F := fun a w => Sure P oz a w (fun w1 => D w w1 ∧ wpOp P l.toArray Q (l.length - 1) (fun a'' w'' => Q .normal a'' w'') a w1)) hC hE hA hB.1
    (fun listed a w hl hf => by
      obtain ⟨hr, hr2, he⟩ := step listed hl
      refine ⟨only listed hl, hr, hf.mono fun w1 hq => ⟨hq.1, ?_⟩⟩
      refine ⟨fun e => (by rw [e] at hr2; cases hr2), fun i hi => ?_⟩
      obtain rfl := hno2 _ hr2 i hi
      exact wpOp_mono (fun a w hq => ⟨he, hq⟩) hq.2)
    (fun listed hl => only listed hl) l.dropLast.dropLast 0 (Array.replicate l.toArray.size false) a [] hg (by rw [hsz]; omega) (fun j hj => by
      rw [hsz] at hj
      rw [Nat.zero_add, List.getElem?_toArray, List.getElem?_dropLast, List.getElem?_dropLast, if_pos (by simp; omega), if_pos (by omega)])
    (by
      have e : 2 + l.dropLast.dropLast.length = l.length := by rw [hsz]; omega
      rw [e]
      simpa using hB.2) h.out
  refine wp_region_any hm ?_
  have e : l.toArray.size = 2 + l.dropLast.dropLast.length := by rw [hsz]; simp; omega
  have k := any_of_giv2 (J := J) (D := D) hJ hC hE (z := l.length - 2) (p := p) (oz := oz) (op := op) (by simpa using hoz) (by simpa using hop) (by omega) hgz hdz hgp hEp hev hqp hno hzp _ _ _ [] _ ja hg ⟨h0, fun g hG => by cases hG⟩ this
  rw [← e] at k
  exact k
theorem wp_region_gs_last3 {P : Program} {C : World → Prop} {E : Oper → Act → Option GSpec} {R : World → World → Prop} (hC : ∀ x y, C x → R x y → C y) (hE : ∀ o a s, E o a = some s → ∀ u x y, s.F u x → R x y → s.F u y)
    {id : Nat} {Q : Exit → Act → World → Prop} {a : Act} {w : World} {l : List Oper} (p : Nat) (oz op : Oper) (hA : ∀ o a dst v, (∀ d, dst = some d → d ∉ o.looksAt l.toArray) → E o (Act.put a dst v) = E o a) (hm : P.follows .mixedOrders = true) (hB : Region.lexB .any l.toArray = true) (hL1 : waitsBut l (l.length - 2) p = true) (hL2 : waitsB l (l.length - 1) = true) (h2 : 2 ≤ l.length) (hp : p < l.length - 2)
    (hoz : l[l.length - 2]? = some oz) (hop : l[p]? = some op) (hgz : oz.guard = none) (hdz : oz.dst = none) (hgp : op.guard = none) (hqp : quietB op.op = true) (hEp : ∀ a, E op a = none) (hev : ∀ a v, execOp (Act.put a op.dst v).eval oz = execOp a.eval oz) (h0 : C w.drew)
    (h : GivS P l.toArray C E R (fun a' G => ∀ w', Has C G w' → Sure P oz a' w' (fun w1 => True ∧ wpOp P l.toArray Q (l.length - 1) (fun a'' w'' => Q .normal a'' w'') a' w1)) l.dropLast.dropLast a []) : (Code.region id l.toArray true).wp P Q a w :=
  wp_region_gs_lastp (fun _ => True) (fun _ _ => True) hC hE p oz op hA hm hB hL1 hL2 h2 hp hoz hop hgz hdz hgp (fun _ _ _ _ _ _ => trivial) trivial (fun a w w' v _ _ _ hq => pure_extract hqp a w w' v hq) hEp hev h0 h
theorem keepJ {l : List Oper} {t : Tmp} {x : Value} (h : l.all (fun o => o.dst != some t) = true) (i : Nat) (o : Oper) (a : Act) (v : Value) (ho : l.toArray[i]? = some o) (ha : a.eval (.tmp t) = x) : (a.put o.dst v).eval (.tmp t) = x := by
  have hm : o ∈ l := by
    have : l[i]? = some o := by simpa using ho
    exact List.mem_of_getElem? this
  have hd := List.all_eq_true.1 h o hm
  rw [Act.eval_put (fun d hd' e => by cases e; rw [hd'] at hd; simp at hd)]
  exact ha
/- A struct that is loaded beside a store elsewhere. -/
theorem pure_loadS {t : TypeId} {n : Nat} (hS : IsS t n) {o : Oper} (x : Operand) (ho : o.op = .load t x) {a : Act} {w w' : World} {v : Value} (g : Nat) (hx : a.eval x = .pointer (some ⟨g, 0, none⟩)) (cs : Array Value) (hn : cs.size = n) (h1 : StB w g t cs) (h2 : StB w' g t cs)
    (hq : Oper.quietUpon Tryz.prog (fun _ => False) w v ((execOp a.eval o).run Tryz.prog w)) : Oper.quietUpon Tryz.prog (fun _ => False) w' v ((execOp a.eval o).run Tryz.prog w') := by
  unfold execOp at hq ⊢
  simp only [ho, hx, Instr.loadAt, Instr.sureAddr, Sem.run_bind, Sem.run_pure, Result.andThen_ok, load_S hS w g cs hn h1] at hq
  simp only [ho, hx, Instr.loadAt, Instr.sureAddr, Sem.run_bind, Sem.run_pure, Result.andThen_ok, load_S hS w' g cs hn h2]
  simp [Oper.quietUpon] at hq ⊢
  exact hq
end Go.Proofs.YtlkkpolnllbljaaGreatDoor
/- A command in a block of five cells: loads, stores and answers of the whole struct. -/
namespace Go.Proofs.YtlkkpolnllbljaaGreatDoor
open Go.ChangeShapes Go.WideShapes Go.ChangeAt Go.RowKit

def cmA (c : Cm) : Array Value := #[.int .i64 c.o, .int .i64 c.p, .int .i64 c.a, .int .i64 c.b, .int .i64 c.k]
def CV (c : Cm) : Value := .agg (cmA c)

def sumN (l : Bs) (j : Nat) : Int := (l.take j).foldl (fun n b => n + byteI b) 0
theorem sumN_step (l : Bs) (j : Nat) (h : j < l.length) : sumN l (j + 1) = sumN l j + byteI (l.getD j 0) := by
  unfold sumN
  rw [take_snocB l j h, List.foldl_append]
  simp [h]
theorem sumN_bd (l : Bs) (j : Nat) : 0 ≤ sumN l j ∧ sumN l j ≤ 256 * j := by
  induction j with
  | zero => simp [sumN]
  | succ j ih =>
    by_cases h : j < l.length
    · have := byteI_bd (l.getD j 0)
      rw [sumN_step l j h]; omega
    · have : sumN l (j + 1) = sumN l j := by unfold sumN; rw [List.take_of_length_le (by omega), List.take_of_length_le (by omega)]
      rw [this]; omega

/- Block g holds the command c. -/
def CmB (w : World) (g : Nat) (t : TypeId) (c : Cm) : Prop := w.heap[g]? = some (.cells (cmA c) t (0, 0))
theorem CmB.lt {w : World} {g : Nat} {t : TypeId} {c : Cm} (h : CmB w g t c) : g < w.heap.size := by
  rcases Nat.lt_or_ge g w.heap.size with hlt | hge
  · exact hlt
  · rw [CmB, Array.getElem?_eq_none hge] at h; cases h
theorem CmB.new (w : World) (t : TypeId) (c : Cm) : CmB (w.alloc (.cells (cmA c) t)) w.heap.size t c := heap_alloc_new w _
theorem CmB.below {w w' : World} {g : Nat} {t : TypeId} {c : Cm} (h : CmB w g t c) (hb : Below w.heap.size w w') : CmB w' g t c := (hb.block g h.lt).trans h
theorem CmB.kept {w w' : World} {g : Nat} {t : TypeId} {c : Cm} {row : Option Nat} (h : CmB w g t c) (hg : w.grownBy w' row) (hne : some g ≠ row) : CmB w' g t c := (hg.block g h.lt hne).trans h
theorem CmB.alloc {w : World} {g : Nat} {t : TypeId} {c : Cm} (h : CmB w g t c) (o : Obj) : CmB (w.alloc o) g t c := (Below.heap_alloc w o g h.lt).trans h
theorem CmB.cell {w : World} {g : Nat} {t : TypeId} {c : Cm} (h : CmB w g t c) (j : Nat) {x : Value} (e : (cmA c)[j]? = some x) : w.cell? ⟨g, j, none⟩ = some x := by rw [cell_of_row w g j _ _ _ h, e]
theorem CmB.frozen {w : World} {g : Nat} {t : TypeId} {c : Cm} (h : CmB w g t c) (j : Nat) : w.frozen? ⟨g, j, none⟩ = false := frozen_of_row w g j _ _ h
theorem grownRowC (w : World) (g : Nat) (cs : Array Value) : w.grownBy (w.setRow g cs) (some g) :=
  ⟨rfl, rfl, rfl, by simp, fun k _ hne => _root_.Go.setRow_other w g k cs (fun e => hne (by rw [e]))⟩
theorem cmA_one (c : Cm) : (cmA c).all (·.oneCell') = true := by simp [cmA, Value.oneCell']

theorem Tryz.infoC : (Tryz.prog.info? 66).map (·.size) = some 5 := by kernel_rfl
theorem Tryz.underC : ∃ fs, Tryz.prog.underlying 66 = some (.struct fs) := ⟨_, Tryz.underlying66⟩
theorem wpList_getC {ops : Array Oper} {rest : List Oper} {o : Oper} {a : Act} {w : World} {Q : Exit → Act → World → Prop} (hgd : o.guard = none) (x : Operand) (ho : o.op = .load 66 x)
    (g : Nat) (hx : a.eval x = .pointer (some ⟨g, 0, none⟩)) (c : Cm) (hr : CmB w g 66 c)
    (h : wpList Tryz.prog ops Q rest (a.put o.dst (CV c)) w) : wpList Tryz.prog ops Q (o :: rest) a w := by
  obtain ⟨fs, hu⟩ := Tryz.underC
  exact wpList_load_row hgd _ x ho g hx _ _ _ _ hr hu rfl Tryz.infoC h
theorem wpList_putC {ops : Array Oper} {rest : List Oper} {o : Oper} {a : Act} {w : World} {Q : Exit → Act → World → Prop} (hgd : o.guard = none) (x y : Operand) (ho : o.op = .store 66 x y)
    (g : Nat) (c c' : Cm) (hx : a.eval x = .pointer (some ⟨g, 0, none⟩)) (hy : a.eval y = CV c) (hr : CmB w g 66 c')
    (h : ∀ w', CmB w' g 66 c → w.grownBy w' (some g) → wpList Tryz.prog ops Q rest (a.put o.dst undef) w') : wpList Tryz.prog ops Q (o :: rest) a w :=
  wpList_store_row hgd _ x y ho g (cmA c) hx hy _ _ hr Tryz.infoC rfl (cmA_one c) (h _ (setRow_heap w g _ _ _ _ hr) (grownRowC w g _))
theorem results_C {fn : Func} {p : Tmp} (h : fn.results = #[.cell p 66]) (tmps : Array Value) (w : World) (g : Nat) (c : Cm)
    (hp : tmps.getD p undef = .pointer (some ⟨g, 0, none⟩)) (hr : CmB w g 66 c) : (results fn tmps).run Tryz.prog w = .ok (CV c) w := by
  obtain ⟨fs, hu⟩ := Tryz.underC
  exact results_cell_row h tmps w g _ _ _ _ hp hr hu rfl Tryz.infoC
theorem results_C2 {fn : Func} {p q : Tmp} (h : fn.results = #[.cell p 66, .tmp q]) (tmps : Array Value) (w : World) (g : Nat) (c : Cm) (x : Value)
    (hp : tmps.getD p undef = .pointer (some ⟨g, 0, none⟩)) (hx : tmps.getD q undef = x) (hr : CmB w g 66 c) : (results fn tmps).run Tryz.prog w = .ok (.tuple #[CV c, x]) w := by
  obtain ⟨fs, hu⟩ := Tryz.underC
  rw [results_cell_tmp h, hp, hx]
  simp only [asAddr, Sem.run_pure, Result.andThen_ok]
  rw [run_loadVar_row w g _ _ _ _ _ hr hu rfl Tryz.infoC]
  rfl
theorem results_CC {fn : Func} {p q : Tmp} (h : fn.results = #[.cell p 66, .cell q 66]) (tmps : Array Value) (w : World) (g k : Nat) (c d : Cm)
    (hp : tmps.getD p undef = .pointer (some ⟨g, 0, none⟩)) (hq : tmps.getD q undef = .pointer (some ⟨k, 0, none⟩)) (hc : CmB w g 66 c) (hd : CmB w k 66 d) : (results fn tmps).run Tryz.prog w = .ok (.tuple #[CV c, CV d]) w := by
  obtain ⟨fs, hu⟩ := Tryz.underC
  have h1 := run_loadVar_row w g _ _ _ _ _ hc hu rfl Tryz.infoC
  have h2 := run_loadVar_row w k _ _ _ _ _ hd hu rfl Tryz.infoC
  have hp' : tmps[p]?.getD undef = .pointer (some ⟨g, 0, none⟩) := by simpa using hp
  have hq' : tmps[q]?.getD undef = .pointer (some ⟨k, 0, none⟩) := by simpa using hq
  simp [results, h, hp', hq', asAddr, h1, h2]
  exact ⟨rfl, rfl⟩
theorem code_short {s : Bs} (h : s.length < 8) : codeC s = 1 ∧ readC s = Cm.zero := by
  have : codeC s = 1 := by unfold codeC; rw [if_pos h]
  exact ⟨this, readC_not (by rw [this]; decide)⟩
theorem code_long {s : Bs} (h : 8 < s.length) : codeC s = 2 ∧ readC s = Cm.zero := by
  have : codeC s = 2 := by unfold codeC; rw [if_neg (by omega), if_pos h]
  exact ⟨this, readC_not (by rw [this]; decide)⟩
theorem code_sum {s : Bs} (h : s.length = 8) (h2 : byteI (s.getD 7 0) ≠ sumI (s.take 7)) : codeC s = 3 ∧ readC s = Cm.zero := by
  have : codeC s = 3 := by unfold codeC; rw [if_neg (by omega), if_neg (by omega), if_pos h2]
  exact ⟨this, readC_not (by rw [this]; decide)⟩
theorem code_op {s : Bs} (h : s.length = 8) (h2 : byteI (s.getD 7 0) = sumI (s.take 7)) (h3 : inI (cmOf s).o 1 12 = false) : codeC s = 4 ∧ readC s = Cm.zero := by
  have : codeC s = 4 := by unfold codeC; rw [if_neg (by omega), if_neg (by omega), if_neg (by simpa using h2), if_pos h3]
  exact ⟨this, readC_not (by rw [this]; decide)⟩
theorem code_field {s : Bs} (h : s.length = 8) (h2 : byteI (s.getD 7 0) = sumI (s.take 7)) (h3 : inI (cmOf s).o 1 12 = true) (h4 : (cmOf s).ok = false) : codeC s = 5 ∧ readC s = Cm.zero := by
  have : codeC s = 5 := by unfold codeC; rw [if_neg (by omega), if_neg (by omega), if_neg (by simpa using h2), if_neg (by rw [h3]; decide), if_pos h4]
  exact ⟨this, readC_not (by rw [this]; decide)⟩
theorem code_ok {s : Bs} (h : s.length = 8) (h2 : byteI (s.getD 7 0) = sumI (s.take 7)) (h4 : (cmOf s).ok = true) : codeC s = 0 ∧ readC s = cmOf s := by
  have : codeC s = 0 := by unfold codeC; rw [if_neg (by omega), if_neg (by omega), if_neg (by simpa using h2), if_neg (by rw [told_op h4]; decide), if_neg (by rw [h4]; decide)]
  exact ⟨this, by unfold readC; rw [if_pos this]⟩
end Go.Proofs.YtlkkpolnllbljaaGreatDoor
/- What the model does to a disk by a command: l11Did. -/
namespace Go.Proofs.YtlkkpolnllbljaaGreatDoor
open Go.ChangeShapes Go.WideShapes Go.ChangeAt Go.RowKit

theorem Tryz.isA : IsS 44 2 := ⟨⟨_, Tryz.underlying44⟩, by kernel_rfl⟩

theorem Tryz.isD : IsS 36 2 := ⟨⟨_, Tryz.underlying36⟩, by kernel_rfl⟩
def zeD : Array Value := #[.slice none 0 0, .slice none 0 0]
def zeA : Array Value := #[.int .i64 0, .string ⟨#[]⟩]
theorem anA_zero : zeA = anA ⟨0, []⟩ := rfl

theorem anA_one (x : An) : (anA x).all (·.oneCell') = true := by simp [anA, S, Value.oneCell']

theorem dkA_one {u v : Value} (hu : u.oneCell' = true) (hv : v.oneCell' = true) : (#[u, v] : Array Value).all (·.oneCell') = true := by simp [hu, hv]
/- Two results, each a struct in a variable of its own. -/
theorem results_DA {fn : Func} {p q : Tmp} (h : fn.results = #[.cell p 36, .cell q 44]) (tmps : Array Value) (w : World) (g k : Nat) (cs ds : Array Value) (hc : cs.size = 2) (hd : ds.size = 2)
    (hp : tmps.getD p undef = .pointer (some ⟨g, 0, none⟩)) (hq : tmps.getD q undef = .pointer (some ⟨k, 0, none⟩)) (h1 : StB w g 36 cs) (h2 : StB w k 44 ds) : (results fn tmps).run Tryz.prog w = .ok (.tuple #[.agg cs, .agg ds]) w := by
  have l1 := load_S Tryz.isD w g cs hc h1
  have l2 := load_S Tryz.isA w k ds hd h2
  have hp' : tmps[p]?.getD undef = .pointer (some ⟨g, 0, none⟩) := by simpa using hp
  have hq' : tmps[q]?.getD undef = .pointer (some ⟨k, 0, none⟩) := by simpa using hq
  simp [results, h, hp', hq', asAddr, l1, l2]
/- The boxes of the disk and of the command, the two results. -/
structure Vl (w wx : World) (u v : Value) (c : Cm) (d : Array Value) (x : An) : Prop where
  dk : StB wx w.heap.size 36 #[u, v]
  cm : CmB wx (w.heap.size + 1) 66 c
  rd : StB wx (w.heap.size + 1 + 1) 36 d
  ra : StB wx (w.heap.size + 1 + 1 + 1) 44 (anA x)
  bl : Below w.heap.size w wx
  sz : w.heap.size + 4 ≤ wx.heap.size
theorem Vl.start (w : World) (u v : Value) (c : Cm) : Vl w ((((w.alloc (.cells #[u, v] 36)).alloc (.cells (cmA c) 66)).alloc (.cells zeD 36)).alloc (.cells (anA ⟨0, []⟩) 44)) u v c zeD ⟨0, []⟩ := by
  have a1 := StB.new w 36 #[u, v]
  have a2 := CmB.new (w.alloc (.cells #[u, v] 36)) 66 c
  have a3 := StB.new ((w.alloc (.cells #[u, v] 36)).alloc (.cells (cmA c) 66)) 36 zeD
  have a4 := StB.new (((w.alloc (.cells #[u, v] 36)).alloc (.cells (cmA c) 66)).alloc (.cells zeD 36)) 44 (anA ⟨0, []⟩)
  simp only [World.size_alloc] at a2 a3 a4
  refine ⟨((a1.alloc _).alloc _).alloc _, (a2.alloc _).alloc _, a3.alloc _, a4, ?_, by simp⟩
  exact ((((Below.refl _ _).alloc (Nat.le_refl _) _).alloc (by simp) _).alloc (by simp; omega) _).alloc (by simp; omega) _
theorem Vl.next {w wx wy : World} {u v : Value} {c : Cm} {d : Array Value} {x : An} (h : Vl w wx u v c d x) (b : Below wx.heap.size wx wy) : Vl w wy u v c d x :=
  ⟨h.dk.below b, h.cm.below b, h.rd.below b, h.ra.below b, h.bl.trans (b.mono h.bl.size), Nat.le_trans h.sz b.size⟩
theorem Vl.grown {w wx wy : World} {u v : Value} {c : Cm} {d : Array Value} {x : An} {g : Nat} (h : Vl w wx u v c d x) (b : wx.grownBy wy (some g)) (hg : w.heap.size + 4 ≤ g) : Vl w wy u v c d x :=
  ⟨h.dk.kept b (by simp; omega), h.cm.kept b (by simp; omega), h.rd.kept b (by simp; omega), h.ra.kept b (by simp; omega), h.bl.grown b h.bl.size (fun k e => by cases e; omega), Nat.le_trans h.sz b.size⟩
theorem Vl.drew {w wx : World} {u v : Value} {c : Cm} {d : Array Value} {x : An} (h : Vl w wx u v c d x) : Vl w wx.drew u v c d x :=
  ⟨h.dk, h.cm, h.rd, h.ra, h.bl.drew, h.sz⟩
end Go.Proofs.YtlkkpolnllbljaaGreatDoor
/- What calls answer in regions that draw: a value that is known; a store and an answer, in new memory. -/
namespace Go.Proofs.YtlkkpolnllbljaaGreatDoor
open Go.ChangeShapes Go.WideShapes Go.ChangeAt Go.RowKit

theorem results_NA {fn : Func} {p q : Tmp} (h : fn.results = #[.cell p 42, .cell q 44]) (tmps : Array Value) (w : World) (g k : Nat) (cs ds : Array Value) (hc : cs.size = 20) (hd : ds.size = 2)
    (hp : tmps.getD p undef = .pointer (some ⟨g, 0, none⟩)) (hq : tmps.getD q undef = .pointer (some ⟨k, 0, none⟩)) (h1 : StB w g 42 cs) (h2 : StB w k 44 ds) : (results fn tmps).run Tryz.prog w = .ok (.tuple #[.agg cs, .agg ds]) w := by
  have l1 := load_S Tryz.isNd w g cs hc h1
  have l2 := load_S Tryz.isA w k ds hd h2
  have hp' : tmps[p]?.getD undef = .pointer (some ⟨g, 0, none⟩) := by simpa using hp
  have hq' : tmps[q]?.getD undef = .pointer (some ⟨k, 0, none⟩) := by simpa using hq
  simp [results, h, hp', hq', asAddr, l1, l2]
theorem isCm5 : IsS 66 5 := ⟨⟨_, Tryz.underlying66⟩, by kernel_rfl⟩
/- What a call answers that makes memory of its own, and nothing that is kept. -/
def isG (v : Value) : GSpec := ⟨fun u => u = v, fun _ _ => True⟩
theorem isG_of {P : Program} {f : FuncId} {args : Array Value} {w : World} {v : Value} (hc : Calls P f args w fun e w' => e = .returned v ∧ Below w.heap.size w w') : Calls P f args w (fun e w'' => ∃ u, e = .returned u ∧ (isG v).V u ∧ (isG v).F u w'' ∧ Later w w'') := hc.mono fun _ _ ⟨he, b⟩ => ⟨_, he, rfl, trivial, b⟩
def didG (m : Nat) (s : Sr) (x : An) : GSpec :=
  ⟨fun u => ∃ ao ac bo bc ko kc, u = .tuple #[.agg #[.slice ao s.xs.length ac, .slice bo s.ys.length bc, .slice ko s.h.ks.length kc, .int .i64 s.h.kd, .int .i64 s.h.ho, .int .i64 s.h.tu], .agg (anA x)],
   fun u w => ∀ a b k n1 n2 n3 y, u = .tuple #[.agg #[a, b, k, n1, n2, n3], y] → OwnR w m a b k s.xs s.ys s.h.ks⟩
theorem didG_later {m : Nat} {s : Sr} {v : An} {u : Value} {x y : World} (hx : (didG m s v).F u x) (b : Later x y) : (didG m s v).F u y := fun a b' k n1 n2 n3 t e => (hx a b' k n1 n2 n3 t e).below b
theorem didG_of {P : Program} {f : FuncId} {args : Array Value} {w : World} {m : Nat} {s : Sr} {x : An} (hm : m ≤ w.heap.size) (hc : Calls P f args w fun e w' => ∃ a b k, e = .returned (.tuple #[.agg (srA a b k s.h), .agg (anA x)]) ∧ OwnR w' w.heap.size a b k s.xs s.ys s.h.ks ∧ Below w.heap.size w w') :
    Calls P f args w (fun e w'' => ∃ u, e = .returned u ∧ (didG m s x).V u ∧ (didG m s x).F u w'' ∧ Later w w'') := by
  refine hc.mono ?_
  rintro e w' ⟨a, b, k, rfl, o, bl⟩
  obtain ⟨ao, ac, rfl⟩ := o.1.1.reads.form
  obtain ⟨bo, bc, rfl⟩ := o.1.2.1.reads.form
  obtain ⟨ko, kc, rfl⟩ := o.2.1.reads.form
  exact ⟨_, rfl, ⟨ao, ac, bo, bc, ko, kc, rfl⟩, fun a b k n1 n2 n3 y e => by cases e; exact o.mono hm, bl⟩
end Go.Proofs.YtlkkpolnllbljaaGreatDoor
/- The laws hold an answer against itself. -/
namespace Go.Proofs.YtlkkpolnllbljaaGreatDoor
open Go.ChangeShapes Go.WideShapes Go.ChangeAt Go.RowKit

set_option maxRecDepth 20000 in
set_option maxHeartbeats 1000000 in
theorem eqAnswer_self (x : An) (w : World) :
    Calls Tryz.prog 9 #[AV x, AV x] w fun e w' => e = .returned (.bool true) ∧ Below w.heap.size w w' := by
  obtain ⟨st, tx⟩ := x
  have hb : Hid (Below w.heap.size w ((w.alloc (.cells (anA ⟨st, tx⟩) 44)).alloc (.cells (anA ⟨st, tx⟩) 44))) := ((Below.refl _ _).alloc (Nat.le_refl _) _).alloc (by simp) _
  have e1 : (st != st) = false := by simp
  have e2 : (tx == tx) = true := by simp
  unfold AV anA S at *
  dsimp only at *
  go_enter Tryz.func9, Tryz.ntmps9
  go_wp2
  go_ret
  exact ⟨rfl, hb.out⟩
end Go.Proofs.YtlkkpolnllbljaaGreatDoor
/- A house that was asked is fine; two variables at once, of a house and an answer. -/
namespace Go.Proofs.YtlkkpolnllbljaaGreatDoor
open Go.ChangeShapes Go.WideShapes Go.ChangeAt Go.RowKit

theorem Fine.ask (n : Nd) (who : Int) (b : Bs) : Fine (n.Ask who b).1 := by
  unfold Nd.Ask
  split
  · rename_i ok
    exact .inr (((Nd.ok_iff n).1 ok).ask who b (fun h => (showC_read h).1)).1
  · exact .inl rfl
/- Two variables. -/
def Blk2 (g : Nat) (t : TypeId) (cs : Array Value) (k : Nat) (s : TypeId) (ds : Array Value) : Item :=
  ⟨[g, k], 0, fun w => StB w g t cs ∧ StB w k s ds, fun w w' e _ h => ⟨(e g (by simp)).trans h.1, (e k (by simp)).trans h.2⟩⟩
theorem Sta.var2 {w wx wy : World} {L : List Item} {t s : TypeId} {cs ds : Array Value} {g k : Nat} (h : Sta w wx L) (b : Below wx.heap.size wx wy) (hg : StB wy g t cs) (hk : StB wy k s ds) (lg : wx.heap.size ≤ g) (lk : wx.heap.size ≤ k) : Sta w wy (Blk2 g t cs k s ds :: L) := by
  refine h.add b (Blk2 g t cs k s ds) ⟨hg, hk⟩ (fun x hx => ?_)
  simp only [Blk2, List.mem_cons, List.not_mem_nil, or_false] at hx
  rcases hx with rfl | rfl
  · exact ⟨lg, hg.lt⟩
  · exact ⟨lk, hk.lt⟩
end Go.Proofs.YtlkkpolnllbljaaGreatDoor
