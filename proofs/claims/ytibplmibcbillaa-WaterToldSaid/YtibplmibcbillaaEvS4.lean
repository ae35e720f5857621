/-
  The operations, one by one: numbers, addresses, values.
-/
import Derived.Test.YtibplmibcbillaaEvS3
import Derived.IntWalk
import Derived.Laws.StructEq
namespace Go.Ev
open Go.RowKit

variable {P : Program} {w : World}

theorem wrapF_eq (k : IntKind) (n : Int) : wrapF k n = k.wrap n := by
  unfold wrapF
  split
  · split
    · rename_i m h
      have h : m < 9223372036854775808 := by simpa [Nat.blt_eq] using h
      have e : (Int.ofNat m) = (m : Int) := rfl
      exact (IntWalk.i64_in _ (by omega)).symm
    · rfl
  · split
    · rename_i m h
      have h : m < 9223372036854775808 := by simpa [Nat.blt_eq] using h
      have e3 : Int.negSucc m = -((m : Int) + 1) := rfl
      exact (IntWalk.i64_in _ (by omega)).symm
    · rfl
  · rfl

theorem eqI_eq (a b : Int) : eqI a b = (a == b) := by
  rw [Bool.eq_iff_iff]
  cases a <;> cases b <;> simp [eqI] <;> omega

theorem ltI_eq (a b : Int) : ltI a b = decide (a < b) := by
  rw [Bool.eq_iff_iff, decide_eq_true_eq]
  cases a with
  | ofNat a => cases b with
    | ofNat b => simp [ltI, Nat.blt_eq]
    | negSucc b =>
      have : ¬ (Int.ofNat a < Int.negSucc b) := by have : Int.negSucc b = -((b : Int) + 1) := rfl; have : (Int.ofNat a) = (a : Int) := rfl; omega
      exact ⟨(fun h => by cases h), (fun h => absurd h this)⟩
  | negSucc a => cases b with
    | ofNat b =>
      have : (Int.negSucc a < Int.ofNat b) := by have : Int.negSucc a = -((a : Int) + 1) := rfl; have : (Int.ofNat b) = (b : Int) := rfl; omega
      exact ⟨fun _ => this, fun _ => rfl⟩
    | negSucc b =>
      have e1 : Int.negSucc a = -((a : Int) + 1) := rfl
      have e2 : Int.negSucc b = -((b : Int) + 1) := rfl
      simp only [ltI, Nat.blt_eq]
      omega

theorem sameKind_eq {k k' : IntKind} (h : sameKind k k' = true) : k = k' := by
  cases k <;> cases k' <;> first | rfl | cases h

theorem binF_run {op : BinOp} {k : IntKind} {x y : Int} {v : AV} (t : TypeId) (D : Nat → Prop) (ρ : Ren) (h : binF op k x y = some v) : (binOp op t (.int k x) (.int k y)).run P w = .ok (conc ρ v) w ∧ v.within D := by
  cases op <;> simp only [binF, Option.some.injEq, reduceCtorEq] at h
  case quo =>
    split at h
    · cases h
    · rename_i hb
      cases h
      rw [eqI_eq] at hb
      have hb : y ≠ 0 := by simpa using hb
      exact ⟨by simp [binOp, Op.intDiv, conc, wrapF_eq, hb], trivial⟩
  case rem =>
    split at h
    · cases h
    · rename_i hb
      cases h
      rw [eqI_eq] at hb
      have hb : y ≠ 0 := by simpa using hb
      exact ⟨by simp [binOp, Op.intDiv, conc, hb], trivial⟩
  all_goals subst h
  all_goals refine ⟨?_, trivial⟩
  all_goals simp [binOp, Op.intCmp, Op.intArith, conc, eqI_eq, ltI_eq, bne, wrapF_eq]
  all_goals (rw [Bool.eq_iff_iff]; simp)
mutual
theorem within_true : ∀ v : AV, v.within (fun _ => True)
  | .fn _ a b => ⟨withins_true a, withins_true b⟩
  | .iface _ v => within_true v
  | .agg cs => withins_true cs
  | .tup cs => withins_true cs
  | .ptr _ _ | .slice _ _ _ _ | .opn _ _ | .tail _ _ _ _ | .map _ | .yield _ => trivial
  | .int _ _ | .bool _ | .str _ | .nilp | .nils | .nilm | .nilf | .nili | .raw _ => trivial
theorem withins_true : ∀ l : List AV, AV.withins (fun _ => True) l
  | [] => trivial
  | v :: vs => ⟨within_true v, withins_true vs⟩
end

theorem bin_run {op : BinOp} {k k' : IntKind} {x y : Int} {v : AV} (t : TypeId) (D : Nat → Prop) (ρ : Ren) (h : bin op k x k' y = some v) : (binOp op t (.int k x) (.int k' y)).run P w = .ok (conc ρ v) w ∧ v.within D := by
  unfold bin at h
  split at h
  · split at h
    · rename_i a b
      split at h
      · rename_i hb
        cases h
        have hb := Nat.le_of_ble_eq_true hb
        refine ⟨?_, trivial⟩
        have e1 : ¬ (Int.ofNat b < 0) := by have : Int.ofNat b = (b : Int) := rfl; omega
        have e2 : min (Int.ofNat b).toNat k.bits = b := by
          have : (Int.ofNat b).toNat = b := rfl
          rw [this]
          have : 8 ≤ k.bits := by cases k <;> decide
          omega
        have e3 : (Int.ofNat a).fdiv (2 ^ b) = Int.ofNat (Nat.shiftRight a b) := by
          have : Nat.shiftRight a b = a / 2 ^ b := Nat.shiftRight_eq_div_pow a b
          rw [this]
          have : ((2 : Int) ^ b) = ((2 ^ b : Nat) : Int) := by norm_cast
          rw [this]
          show (Int.ofNat a).fdiv (Int.ofNat (2 ^ b)) = _
          cases hp : 2 ^ b with
          | zero => exact absurd hp (Nat.ne_of_gt (Nat.two_pow_pos b))
          | succ n => cases a with
            | zero => show Int.ofNat 0 = _; simp
            | succ a => rfl
        simp only [binOp, Op.shift, if_neg e1, e2, e3, conc]
        rfl
      · cases h
    · cases h
  · cases h
  · rename_i h1 h2
    split at h
    · rename_i hk
      cases sameKind_eq hk
      exact binF_run t D ρ h
    · cases h

theorem run_part (ρ : Ren) (D : Nat → Prop) {t : TypeId} {cs : List AV} {off : Nat} {v : AV} (h : eqT.part P t cs off = some v) (hd : AV.withins D cs) : (part t (concs ρ cs).toArray off).run P w = .ok (conc ρ v) w ∧ v.within D := by
  unfold eqT.part at h
  split at h
  · rename_i ti ht
    cases ha : ti.agg with
    | true =>
      simp only [ha, Option.map_eq_some_iff] at h
      obtain ⟨l, hs, rfl⟩ := h
      refine ⟨?_, seg_within hs hd⟩
      simp only [part, Sem.run_bind, run_isAgg ht, ha, Result.andThen_ok, if_true, run_sizeOf ht, Sem.run_pure, conc]
      rcases seg_spec hs with ⟨rfl, hle⟩ | ⟨hz, rfl⟩
      · rw [concs_take, concs_drop]
        congr 2
        simp
      · simp [hz, concs]
    | false =>
      simp only [ha] at h
      refine ⟨?_, withins_iff.1 hd v (List.mem_of_getElem? h)⟩
      have := conc_getElem ρ cs off [] v h
      simp only [List.append_nil] at this
      simp [part, run_isAgg ht, ha, this]
  · cases h

theorem eqT_run (ρ : Ren) : ∀ (d : Nat) (t : TypeId) (x y : AV) (b : Bool), eqT P d t x y = some b → ∀ n, (Op.equalIn (n + d) t (conc ρ x) (conc ρ y)).run P w = .ok b w := by
  intro d
  induction d with
  | zero => intro t x y b h; cases h
  | succ d ih =>
    intro t x y b h n
    unfold eqT at h
    rw [← Nat.add_assoc]
    split at h
    · rename_i hu; cases h; simp [Op.equalIn, run_under hu, conc]
    · rename_i hu
      split at h
      · rename_i hk
        cases sameKind_eq hk; cases h
        simp [Op.equalIn, run_under hu, conc, eqI_eq]
      · cases h
    · rename_i hu; cases h; simp [Op.equalIn, run_under hu, conc]
    · rename_i hu; cases h; simp [Op.equalIn, run_under hu, conc]
    · rename_i hu; cases h; simp [Op.equalIn, run_under hu, conc]
    · rename_i hu; cases h; simp [Op.equalIn, run_under hu, conc]
    · rename_i hu; cases h; simp [Op.equalIn, run_under hu, conc]
    · rename_i hu; cases h; simp [Op.equalIn, run_under hu, conc]
    · rename_i hu; cases h; simp [Op.equalIn, run_under hu, conc]
    · rename_i hu; cases h; simp [Op.equalIn, run_under hu, conc]
    · rename_i hu; cases h; simp [Op.equalIn, run_under hu, conc]
    · rename_i hu; cases h; simp [Op.equalIn, run_under hu, conc]
    · rename_i hu; cases h; simp [Op.equalIn, run_under hu, conc]
    · rename_i hu; cases h; simp [Op.equalIn, run_under hu, conc]
    · rename_i hu; cases h; simp [Op.equalIn, run_under hu, conc]
    · rename_i hu; cases h; simp [Op.equalIn, run_under hu, conc]
    · rename_i fs xs ys hu
      split at h
      · cases h
      · rename_i hst
        have hf : P.fieldsOf t = fs := by simp [Program.fieldsOf, hu]
        simp only [conc]
        rw [run_equalIn_struct w _ t _ _ (by rw [hf]; exact hu) hst, hf]
        generalize fs.toList = l at h
        clear hu hf
        induction l generalizing b with
        | nil => cases h; rfl
        | cons f fs ihf =>
          unfold eqT.eqFs at h
          split at h
          · rename_i a c ha hc hn
            have hn' : f.name ≠ "_" := by simpa using hn
            simp only [Op.eqFields, if_pos hn', Sem.run_bind, (run_part ρ (fun _ => True) ha (withins_true _)).1, (run_part ρ (fun _ => True) hc (withins_true _)).1, Result.andThen_ok]
            split at h
            · rename_i hr
              rw [ih _ _ _ _ hr n]
              simpa using ihf b h
            · rename_i hr
              rw [ih _ _ _ _ hr n]
              cases h
              simp
            · cases h
          · cases h
    · rename_i len e xs ys hu
      split at h
      · rename_i ei he
        obtain ⟨i, dd, hs⟩ := mkTI_spec he
        simp only [conc]
        have hsz : ei.size = P.cellsOf e := by rw [hs.size]; simp [Program.cellsOf, hs.info]
        rw [run_equalIn_array w _ _ _ hu hs.info, ← hsz, List.range_eq_range']
        clear hu
        generalize 0 = j at h ⊢
        induction len generalizing b j with
        | zero => cases h; rfl
        | succ len ihl =>
          unfold eqT.eqAs at h
          split at h
          · rename_i a c ha hc
            simp only [List.range'_succ, Op.eqItems, Sem.run_bind, (run_part ρ (fun _ => True) ha (withins_true _)).1, (run_part ρ (fun _ => True) hc (withins_true _)).1, Result.andThen_ok]
            split at h
            · rename_i hr
              rw [ih _ _ _ _ hr n]
              simpa using ihl b _ h
            · rename_i hr
              rw [ih _ _ _ _ hr n]
              cases h
              simp
            · cases h
          · cases h
      · cases h
    · cases h
section
variable {a : Act} {B : Nat} {D : Nat → Prop} {ρ : Ren} {H : Heap} {T : Tr AV}

theorem eqGuard_none (op : BinOp) (t : TypeId) (x y : Operand) (u v : Value) (h1 : u ≠ .nilIface ∨ v ≠ .nilIface) (h2 : (∀ c, u ≠ .agg c) ∨ (∀ c, v ≠ .agg c) ∨ P.eqGuardType P.depth t = false) :
    (eqGuard op t x y u v).run P w = .ok () w := by
  have key : ∀ op, op = .eql ∨ op = .neq → (eqGuard op t x y u v).run P w = .ok () w := by
    intro op ho
    unfold eqGuard
    rcases ho with rfl | rfl
    all_goals
      dsimp only
      simp only [Bool.not_true, Bool.false_eq_true, if_false]
      split
      · exact (h1.elim (fun h => h rfl) (fun h => h rfl)).elim
      · rename_i c d
        rcases h2 with h2 | h2 | h2
        · exact (h2 _ rfl).elim
        · exact (h2 _ rfl).elim
        · simp [program, Sem.run, h2]
      · rfl
  by_cases ho : op = .eql ∨ op = .neq
  · exact key op ho
  · cases op <;> first | rfl | (exact (ho (.inl rfl)).elim) | (exact (ho (.inr rfl)).elim)

theorem eqT_raw_left (d : Nat) (t : TypeId) (v : Value) (y : AV) : eqT P d t (.raw v) y = none := by
  cases d with
  | zero => rfl
  | succ d =>
    unfold eqT
    split <;> first | rfl | contradiction

theorem eqT_raw_right (d : Nat) (t : TypeId) (v : Value) (x : AV) : eqT P d t x (.raw v) = none := by
  cases d with
  | zero => rfl
  | succ d =>
    unfold eqT
    split <;> first | rfl | contradiction

theorem conc_not_nili (ρ : Ren) {v : AV} (h : v ≠ .nili) (h3 : ¬ ∃ u, v = .raw u) : conc ρ v ≠ .nilIface := by
  cases v <;> first
    | exact absurd ⟨_, rfl⟩ h3
    | simp [conc] at *

theorem binOp_eql (ρ : Ren) (t : TypeId) {x y : AV} (h1 : ¬ ∃ k n k' n', x = .int k n ∧ y = .int k' n') (h2 : ¬ ∃ s s', x = .str s ∧ y = .str s') (h3 : ¬ ∃ u, x = .raw u) (h4 : ¬ ∃ u, y = .raw u) :
    binOp .eql t (conc ρ x) (conc ρ y) = (do pure (.bool (← Op.equal t (conc ρ x) (conc ρ y)))) := by
  cases x <;> cases y <;> first
    | exact absurd ⟨_, _, _, _, rfl, rfl⟩ h1
    | exact absurd ⟨_, _, rfl, rfl⟩ h2
    | exact absurd ⟨_, rfl⟩ h3
    | exact absurd ⟨_, rfl⟩ h4
    | (simp only [conc]; rfl)

theorem binOp_neq (ρ : Ren) (t : TypeId) {x y : AV} (h1 : ¬ ∃ k n k' n', x = .int k n ∧ y = .int k' n') (h2 : ¬ ∃ s s', x = .str s ∧ y = .str s') (h3 : ¬ ∃ u, x = .raw u) (h4 : ¬ ∃ u, y = .raw u) :
    binOp .neq t (conc ρ x) (conc ρ y) = (do pure (.bool (!(← Op.equal t (conc ρ x) (conc ρ y))))) := by
  cases x <;> cases y <;> first
    | exact absurd ⟨_, _, _, _, rfl, rfl⟩ h1
    | exact absurd ⟨_, _, rfl, rfl⟩ h2
    | exact absurd ⟨_, rfl⟩ h3
    | exact absurd ⟨_, rfl⟩ h4
    | (simp only [conc]; rfl)

theorem binT_run {op : BinOp} {t : TypeId} {x y v : AV} (ρ : Ren) (ox oy : Operand) (h : binT P op t x y = some v) :
    (do eqGuard op t ox oy (conc ρ x) (conc ρ y); binOp op t (conc ρ x) (conc ρ y) : Sem Value).run P w = .ok (conc ρ v) w ∧ ∀ D : Nat → Prop, v.within D := by
  have main : ∀ b, eqB P t x y = some b → (¬ ∃ k n k' n', x = .int k n ∧ y = .int k' n') → (eqGuard op t ox oy (conc ρ x) (conc ρ y)).run P w = .ok () w ∧
      (binOp .eql t (conc ρ x) (conc ρ y)).run P w = .ok (.bool b) w ∧ (binOp .neq t (conc ρ x) (conc ρ y)).run P w = .ok (.bool (!b)) w := by
    intro b hb hint
    unfold eqB at hb
    split at hb
    · rename_i s1 s2
      cases hb
      exact ⟨eqGuard_none _ _ _ _ _ _ (.inl (by simp [conc])) (.inl (by simp [conc])), by simp [binOp, conc, Op.stringOp, beq_toListBytes], by simp [binOp, conc, Op.stringOp, beq_toListBytes]⟩
    · rename_i c1 c2
      split at hb
      · cases hb
      · rename_i hg
        have := eqT_run (P := P) (w := w) ρ 8 t _ _ b hb 9992
        simp only [conc] at this
        exact ⟨eqGuard_none _ _ _ _ _ _ (.inl (by simp [conc])) (.inr (.inr hg)), by simp [binOp, conc, Op.equal, Op.maxDepth, this], by simp [binOp, conc, Op.equal, Op.maxDepth, this]⟩
    · cases hb
    · rename_i nn ns na
      have hni : x ≠ .nili := nn
      have hstr : ¬ ∃ s s', x = .str s ∧ y = .str s' := fun ⟨s, s', h, h'⟩ => ns s s' h h'
      have hr1 : ¬ ∃ u, x = .raw u := fun ⟨u, e⟩ => by rw [e, eqT_raw_left] at hb; cases hb
      have hr2 : ¬ ∃ u, y = .raw u := fun ⟨u, e⟩ => by rw [e, eqT_raw_right] at hb; cases hb
      have := eqT_run (P := P) (w := w) ρ 8 t _ _ b hb 9992
      refine ⟨eqGuard_none _ _ _ _ _ _ (.inl (conc_not_nili ρ hni hr1)) ?_, ?_, ?_⟩
      · by_cases hx : ∃ c, x = .agg c
        · obtain ⟨c, rfl⟩ := hx
          refine .inr (.inl fun c' e => ?_)
          cases y <;> first
            | exact absurd ⟨_, rfl⟩ hr2
            | simp [conc] at e
          exact na _ _ rfl rfl
        · refine .inl fun c' e => ?_
          cases x <;> first
            | exact absurd ⟨_, rfl⟩ hr1
            | simp [conc] at e
          exact hx ⟨_, rfl⟩
      · rw [binOp_eql ρ t hint hstr hr1 hr2]
        simp [Op.equal, Op.maxDepth, this]
      · rw [binOp_neq ρ t hint hstr hr1 hr2]
        simp [Op.equal, Op.maxDepth, this]
  unfold binT at h
  split at h
  · rename_i k a k' b
    obtain ⟨h1, h2⟩ := bin_run (P := P) (w := w) t (fun _ => True) ρ h
    refine ⟨?_, fun D => (bin_run (P := P) (w := w) t D ρ h).2⟩
    simp only [Sem.run_bind, eqGuard_none op t ox oy (conc ρ (.int k a)) (conc ρ (.int k' b)) (.inl (by simp [conc])) (.inl (by simp [conc])), Result.andThen_ok]
    exact h1
  · rename_i hint
    have hint' : ¬ ∃ k n k' n', x = .int k n ∧ y = .int k' n' := fun ⟨k, n, k', n', h, h'⟩ => hint k n k' n' h h'
    split at h
    · simp only [Option.map_eq_some_iff] at h
      obtain ⟨b, hb, rfl⟩ := h
      obtain ⟨g, m, _⟩ := main b hb hint'
      exact ⟨by simp [g, m, conc], fun D => trivial⟩
    · simp only [Option.map_eq_some_iff] at h
      obtain ⟨b, hb, rfl⟩ := h
      obtain ⟨g, _, m⟩ := main b hb hint'
      exact ⟨by simp [g, m, conc], fun D => trivial⟩
    · cases h

theorem binOp_sound {o : Oper} {op : BinOp} {t u : TypeId} {x y : Operand} {out : Out} (ho : o.op = .binOp op t x y u) (hs : Sim B D ρ H w) (hT : TR D ρ T a.tmps) (he : evBin P T H op t x y = some out) :
    OpOK P a o B D ρ H w out := by
  unfold evBin at he
  split at he
  · rename_i u v hx hy
    simp only [Option.map_eq_some_iff] at he
    obtain ⟨r, hr, rfl⟩ := he
    obtain ⟨ex, kx⟩ := opd_sound hT hx
    obtain ⟨ey, ky⟩ := opd_sound hT hy
    obtain ⟨h1, h2⟩ := binT_run (P := P) (w := w) ρ x y hr
    refine ok_pure hs ?_ (h2 D)
    have : execOp a.eval o = (do pure (.value (← (do eqGuard op t x y (a.eval x) (a.eval y); binOp op t (a.eval x) (a.eval y)))) : Sem Next) := by simp only [execOp, ho]
    rw [this, ex, ey, Sem.run_bind, h1]
    rfl
  · cases he

theorem unOp_sound {o : Oper} {op : UnOp} {t : TypeId} {x : Operand} {out : Out} (ho : o.op = .unOp op t x) (hs : Sim B D ρ H w) (hT : TR D ρ T a.tmps) (he : evUn T H op x = some out) :
    OpOK P a o B D ρ H w out := by
  unfold evUn at he
  split at he
  · rename_i u hx
    simp only [Option.map_eq_some_iff] at he
    obtain ⟨r, hr, rfl⟩ := he
    obtain ⟨ex, kx⟩ := opd_sound hT hx
    unfold un at hr
    split at hr
    · cases hr
      exact ok_pure hs (by simp [execOp, ho, ex, conc, Op.unary]) trivial
    · cases hr
      exact ok_pure hs (by simp [execOp, ho, ex, conc, Op.unary, Op.intArith, wrapF_eq]) trivial
    · cases hr
  · cases he

theorem nil_sound {o : Oper} {x : Operand} {out : Out} (ho : o.op = .nilCheck x) (hs : Sim B D ρ H w) (hT : TR D ρ T a.tmps) (he : evNil T H x = some out) : OpOK P a o B D ρ H w out := by
  unfold evNil at he
  split at he
  · rename_i hx
    cases he
    obtain ⟨ex, kx⟩ := opd_sound hT hx
    exact ok_pure hs (by simp [execOp, ho, ex, conc]) kx
  · rename_i hx
    cases he
    obtain ⟨ex, kx⟩ := opd_sound hT hx
    exact ok_pure hs (by simp [execOp, ho, ex, conc]) kx
  · rename_i hx
    cases he
    obtain ⟨ex, kx⟩ := opd_sound hT hx
    exact ok_pure hs (by simp [execOp, ho, ex, conc]) kx
  · cases he

theorem conv_sound {o : Oper} {s d : TypeId} {x : Operand} {out : Out} (ho : o.op = .convert s d x) (hs : Sim B D ρ H w) (hT : TR D ρ T a.tmps) (he : evConv P T H s d x = some out) : OpOK P a o B D ρ H w out := by
  unfold evConv at he
  split at he
  · rename_i ti ag sz by_ z k kk n h1 h2 h3
    cases he
    obtain ⟨ex, kx⟩ := opd_sound hT h3
    obtain ⟨i, dd, s1⟩ := mkTI_spec h1
    have u2 := under_int h2 rfl
    refine ok_pure hs ?_ trivial
    simp [execOp, ho, ex, conc, convert, run_under s1.under, run_under u2, Conv.intToInt, wrapF_eq]
  · cases he

theorem makeFunc_sound {o : Oper} {fn : Fn} {first cap : Array Operand} {out : Out} (ho : o.op = .makeFunc fn first cap) (hs : Sim B D ρ H w) (hT : TR D ρ T a.tmps) (he : evMakeFunc T H fn first cap = some out) :
    OpOK P a o B D ρ H w out := by
  unfold evMakeFunc at he
  split at he
  · rename_i f l1 l2 h1 h2
    cases he
    obtain ⟨e1, k1⟩ := opds_sound hT _ _ h1
    obtain ⟨e2, k2⟩ := opds_sound hT _ _ h2
    refine ok_pure hs ?_ ⟨k1, k2⟩
    have f1 : first.map a.eval = (concs ρ l1).toArray := Array.toList_inj.1 (by simpa using e1)
    have f2 : cap.map a.eval = (concs ρ l2).toArray := Array.toList_inj.1 (by simpa using e2)
    simp [execOp, ho, Instr.makeFunc, conc, f1, f2]
  · cases he

theorem makeMap_sound {o : Oper} {t : TypeId} {out : Out} (ho : o.op = .makeMap t none) (hs : Sim B D ρ H w) (he : evMakeMap H = some out) : OpOK P a o B D ρ H w out := by
  cases he
  refine ⟨_, _, _, ?_, post_new hs 0 (.map [] 0) (.map #[] 0) ⟨rfl, fun e he => by cases he⟩, .inr rfl⟩
  simp [execOp, ho, Instr.makeMap, newObj, Sem.run, conc]

theorem fieldAddr_sound {o : Oper} {s : TypeId} {x : Operand} {f : Nat} {out : Out} (ho : o.op = .fieldAddr s x f) (hs : Sim B D ρ H w) (hT : TR D ρ T a.tmps) (he : evFieldAddr P T H s x f = some out) :
    OpOK P a o B D ρ H w out := by
  unfold evFieldAddr at he
  split at he
  · rename_i ag sz by_ z fs b off h1 h2
    split at he
    · rename_i fd hf
      split at he
      · rename_i fi hfi
        split at he
        · cases he
        · rename_i hne
          cases he
          obtain ⟨ex, kx⟩ := opd_sound hT h2
          obtain ⟨arr, hu, ha⟩ := under_struct h1 rfl
          refine ok_pure hs ?_ kx
          have hf' : arr[f]? = some fd := by rw [← ha] at hf; simpa using hf
          simp only [execOp, ho, ex, conc, Instr.fieldAt, Sem.run_bind, run_under hu, Result.andThen_ok, hf', Instr.sureAddr, Sem.run_pure, fieldPlace, run_sizeOf hfi]
          rw [if_neg (by intro e; exact hne e)]
          simp [Addr.add_plain]
      · cases he
    · cases he
  · cases he

theorem field_sound {o : Oper} {s : TypeId} {x : Operand} {f : Nat} {out : Out} (ho : o.op = .field s x f) (hs : Sim B D ρ H w) (hT : TR D ρ T a.tmps) (he : evField P T H s x f = some out) :
    OpOK P a o B D ρ H w out := by
  unfold evField at he
  split at he
  · rename_i ag sz by_ z fs cs h1 h2
    split at he
    · rename_i fd hf
      split at he
      · rename_i fi hfi
        obtain ⟨ex, kx⟩ := opd_sound hT h2
        obtain ⟨arr, hu, ha⟩ := under_struct h1 rfl
        have hf' : arr[f]? = some fd := by rw [← ha] at hf; simpa using hf
        have hp : ∃ v, eqT.part P fd.type cs fd.offset = some v ∧ out = .val v H := by
          unfold eqT.part
          rw [hfi]
          cases hag : fi.agg with
          | true =>
            simp only [hag, Option.map_eq_some_iff] at he ⊢
            obtain ⟨l, hl, rfl⟩ := he
            exact ⟨_, ⟨l, hl, rfl⟩, rfl⟩
          | false =>
            simp only [hag, Option.map_eq_some_iff] at he ⊢
            obtain ⟨l, hl, rfl⟩ := he
            exact ⟨_, hl, rfl⟩
        obtain ⟨v, hv, rfl⟩ := hp
        obtain ⟨r1, r2⟩ := run_part (P := P) (w := w) ρ D hv kx
        refine ok_pure hs ?_ r2
        simp only [execOp, ho, ex, conc, Instr.field, Sem.run_bind, run_under hu, Result.andThen_ok, hf', asAgg, Sem.run_pure, r1]
      · cases he
    · cases he
  · cases he

theorem extract_sound {o : Oper} {x : Operand} {i : Nat} {out : Out} (ho : o.op = .extract x i) (hs : Sim B D ρ H w) (hT : TR D ρ T a.tmps) (he : evExtract T H x i = some out) : OpOK P a o B D ρ H w out := by
  unfold evExtract at he
  split at he
  · rename_i vs hx
    simp only [Option.map_eq_some_iff] at he
    obtain ⟨v, hv, rfl⟩ := he
    obtain ⟨ex, kx⟩ := opd_sound hT hx
    have := conc_getElem ρ vs i [] v hv
    simp only [List.append_nil] at this
    exact ok_pure hs (by simp [execOp, ho, ex, conc, Instr.extract, this]) (withins_iff.1 kx v (List.mem_of_getElem? hv))
  · cases he

theorem indexAddr_sound {o : Oper} {t : TypeId} {x i : Operand} {out : Out} (ho : o.op = .indexAddr t x i) (hs : Sim B D ρ H w) (hT : TR D ρ T a.tmps) (he : evIndexAddr P T H t x i = some out) :
    OpOK P a o B D ρ H w out := by
  unfold evIndexAddr at he
  split at he
  · rename_i ag sz by_ z e b off len cap k n h1 h2 h3
    split at he
    · rename_i ei hlt hei
      cases he
      obtain ⟨ex, kx⟩ := opd_sound hT h2
      obtain ⟨ey, ky⟩ := opd_sound hT h3
      have hu := under_slice h1 rfl
      have hlt : n < len := by simpa [Nat.blt_eq] using hlt
      refine ok_pure hs ?_ kx
      have hc : (0 : Int) ≤ Int.ofNat n ∧ Int.ofNat n < (len : Int) := by
        have : Int.ofNat n = (n : Int) := rfl
        omega
      simp only [execOp, ho, ex, ey, conc, Instr.indexAt, asIntOf, Sem.run_bind, Sem.run_pure, Result.andThen_ok, run_under hu, run_sizeOf hei, if_pos hc, Addr.add_plain, Sem.run_ite]
      simp
    · cases he
  · rename_i ag sz by_ z e b len k n h1 h2 h3
    split at he
    · rename_i ei hlt hei
      cases he
      obtain ⟨ex, kx⟩ := opd_sound hT h2
      obtain ⟨ey, ky⟩ := opd_sound hT h3
      have hu := under_slice h1 rfl
      have hlt : n < len := by simpa [Nat.blt_eq] using hlt
      refine ok_pure hs ?_ kx
      have hc : (0 : Int) ≤ Int.ofNat n ∧ Int.ofNat n < (len : Int) := by
        have : Int.ofNat n = (n : Int) := rfl
        omega
      simp only [execOp, ho, ex, ey, conc, Instr.indexAt, asIntOf, Sem.run_bind, Sem.run_pure, Result.andThen_ok, run_under hu, run_sizeOf hei, if_pos hc, Addr.add_plain, Sem.run_ite]
      simp
    · cases he
  · rename_i ag sz by_ z e b i0 off len k n h1 h2 h3
    split at he
    · rename_i ei hlt hei
      cases he
      obtain ⟨ex, kx⟩ := opd_sound hT h2
      obtain ⟨ey, ky⟩ := opd_sound hT h3
      have hu := under_slice h1 rfl
      have hlt : n < len := by simpa [Nat.blt_eq] using hlt
      refine ok_pure hs ?_ kx
      have hc : (0 : Int) ≤ Int.ofNat n ∧ Int.ofNat n < (len : Int) := by
        have : Int.ofNat n = (n : Int) := rfl
        omega
      simp only [execOp, ho, ex, ey, conc, Instr.indexAt, asIntOf, Sem.run_bind, Sem.run_pure, Result.andThen_ok, run_under hu, run_sizeOf hei, if_pos hc, Addr.add_plain, Sem.run_ite]
      simp; intro h0; omega
    · cases he
  · rename_i ag sz by_ z len e b off k n h1 h2 h3
    split at he
    · rename_i ei hlt hei
      cases he
      obtain ⟨ex, kx⟩ := opd_sound hT h2
      obtain ⟨ey, ky⟩ := opd_sound hT h3
      have hu := under_array h1 rfl
      have hlt : n < len := by simpa [Nat.blt_eq] using hlt
      refine ok_pure hs ?_ kx
      have hc : (0 : Int) ≤ Int.ofNat n ∧ Int.ofNat n < (len : Int) := by
        have : Int.ofNat n = (n : Int) := rfl
        omega
      simp only [execOp, ho, ex, ey, conc, Instr.indexAt, Instr.sureAddr, asIntOf, Sem.run_bind, Sem.run_pure, Result.andThen_ok, run_under hu, run_sizeOf hei, if_pos hc, Addr.add_plain, Sem.run_ite]
      simp
    · cases he
  · cases he
end
end Go.Ev

