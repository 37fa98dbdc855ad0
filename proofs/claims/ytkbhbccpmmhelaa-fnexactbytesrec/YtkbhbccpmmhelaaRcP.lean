/- Records out of bytes: a record is read to the end and valid just where its bytes are these. Plain mathematics. -/
import Derived.Test.YtkbhbccpmmhelaaRc4
import Derived.Test.YtkbhbccpmmhelaaBunA
namespace Go.Proofs.Ytkbhbccpmmhelaa
set_option linter.unusedVariables false
set_option linter.unusedSimpArgs false

theorem gnum_inv : ∀ (l : List Int) (i : Nat) (acc n : Int) (c : Nat), (∀ x ∈ l, 0 ≤ x ∧ x ≤ 255) → gnum l i acc = some (n, c) → ∃ m : Nat, n = acc + (m : Int) * p128 i ∧ i + 1 ≤ c ∧ l = enc m ++ l.drop (c - i) ∧ (0 < i → 0 < m)
  | [], i, acc, n, c, hl, h => by simp [gnum] at h
  | x :: r, i, acc, n, c, hl, h => by
    have hx := hl x (by simp)
    have hr : ∀ y ∈ r, 0 ≤ y ∧ y ≤ 255 := fun y hy => hl y (by simp [hy])
    unfold gnum at h
    split at h
    · split at h
      · split at h
        · cases h
        · rename_i h8 hlt hbad
          have e := Option.some.inj h
          have e1 := congrArg Prod.fst e
          have e2 := congrArg Prod.snd e
          simp only at e1 e2
          refine ⟨x.toNat, ?_, by omega, ?_, fun hi => ?_⟩
          · have k1 : x % 128 = ((x.toNat : Nat) : Int) := by omega
            rw [← e1, k1]
          · have k2 : c - i = 1 := by omega
            have k3 : ((x.toNat : Nat) : Int) = x := by omega
            rw [enc_small _ (by omega), k2, k3]; rfl
          · rcases Nat.eq_zero_or_pos x.toNat with h0 | h0
            · exact absurd (Or.inr ⟨by omega, hi⟩) hbad
            · exact h0
      · rename_i h8 hge
        obtain ⟨m, e1, e2, e3, e4⟩ := gnum_inv r (i + 1) _ n c hr h
        have hm := e4 (by omega)
        refine ⟨(x % 128).toNat + 128 * m, ?_, by omega, ?_, fun _ => by omega⟩
        · have k1 : (((x % 128).toNat + 128 * m : Nat) : Int) = x % 128 + 128 * (m : Int) := by omega
          rw [e1, p128_succ, k1, Int.add_mul, Int.add_assoc]
          congr 2
          rw [Int.mul_comm (p128 i) 128, ← Int.mul_assoc, Int.mul_comm (m : Int) 128]
        · have a1 : ((x % 128).toNat + 128 * m) % 128 = (x % 128).toNat := by omega
          have a2 : ((x % 128).toNat + 128 * m) / 128 = m := by omega
          have a3 : c - i = (c - (i + 1)) + 1 := by omega
          have a4 : (128 : Int) + (((x % 128).toNat : Nat) : Int) = x := by omega
          rw [enc_big _ (by omega), a1, a2, a3, List.drop_succ_cons, List.cons_append, ← e3, a4]
    · cases h
theorem all_of_bytes {zs : List Int} (hb : Bytes zs) : ∀ x ∈ zs, 0 ≤ x ∧ x ≤ 255 := by
  intro x hx
  obtain ⟨j, hj, rfl⟩ := List.getElem_of_mem hx
  have := hb j
  simpa [hj] using this
theorem getNum_inv {zs : List Int} {a n : Int} {c : Nat} (hb : Bytes zs) (h : getNum zs a = some (n, c)) : zs.drop a.toNat = enc n.toNat ++ zs.drop (a + c).toNat := by
  have hs := getNum_some h
  unfold getNum at h
  split at h
  · cases h
  · rename_i ha
    obtain ⟨m, e1, -, e3, -⟩ := gnum_inv _ 0 0 n c (fun x hx => all_of_bytes hb x (List.mem_of_mem_drop hx)) h
    rw [p128_zero] at e1
    have k1 : n.toNat = m := by omega
    have k2 : (a + c).toNat = a.toNat + c := by omega
    rw [k1, k2]
    rw [Nat.sub_zero, List.drop_drop] at e3
    exact e3
theorem rdNum_inv {zs : List Int} {p : Int} {bad : Bool} (hb : Bytes zs) (h : (rdNum zs p bad).2.2 = false) : bad = false ∧ zs.drop p.toNat = enc (rdNum zs p bad).1.toNat ++ zs.drop (rdNum zs p bad).2.1.toNat ∧ 0 ≤ (rdNum zs p bad).2.1 ∧ (rdNum zs p bad).2.1 ≤ zs.length := by
  cases bad with
  | true => rw [rdNum_bad] at h; cases h
  | false =>
    cases hg : getNum zs p with
    | none => rw [rdNum_none hg] at h; cases h
    | some x =>
      obtain ⟨n, c⟩ := x
      have hs := getNum_some hg
      rw [rdNum_some hg]
      exact ⟨rfl, getNum_inv hb hg, by dsimp only; omega, by dsimp only; omega⟩
theorem rdMsg_inv {zs : List Int} {p : Int} {bad : Bool} (hb : Bytes zs) (h : (rdMsg zs p bad).2.2 = false) : bad = false ∧ zs.drop p.toNat = encs (msgNums (rdMsg zs p bad).1) ++ zs.drop (rdMsg zs p bad).2.1.toNat ∧ 0 ≤ (rdMsg zs p bad).2.1 ∧ (rdMsg zs p bad).2.1 ≤ zs.length := by
  unfold rdMsg at h ⊢
  dsimp only at h ⊢
  obtain ⟨h, -⟩ := Bool.or_eq_false_iff.1 h
  obtain ⟨h3, d3, l3⟩ := rdNum_inv hb h
  obtain ⟨h2, d2, -⟩ := rdNum_inv hb h3
  obtain ⟨h1, d1, -⟩ := rdNum_inv hb h2
  obtain ⟨h0, d0, -⟩ := rdNum_inv hb h1
  refine ⟨h0, ?_, l3⟩
  rw [d0, d1, d2, d3]
  simp [encs, msgNums, List.append_assoc]
/-- where the record ends -/
def recEnd (zs : List Int) : Int :=
  let a := rdNum zs 0 false
  let b := rdNum zs a.2.1 a.2.2
  let c := rdNum zs b.2.1 b.2.2
  let d := rdNum zs c.2.1 c.2.2
  let e := rdNum zs d.2.1 d.2.2
  if a.1 = 5 then (rdMsg zs e.2.1 e.2.2).2.1 else e.2.1
theorem recRd_inv {zs : List Int} (hb : Bytes zs) (h : (recRd zs).2 = false) : zs = (if (recRd zs).1.Kind = 5 then encs (recHead (recRd zs).1) ++ encs (msgNums (recRd zs).1.M) else encs (recHead (recRd zs).1)) ++ zs.drop (recEnd zs).toNat ∧ 0 ≤ recEnd zs ∧ recEnd zs ≤ zs.length := by
  have hz : zs = zs.drop (0 : Int).toNat := rfl
  generalize ea : rdNum zs 0 false = a at *
  generalize eb : rdNum zs a.2.1 a.2.2 = b at *
  generalize ec : rdNum zs b.2.1 b.2.2 = c at *
  generalize ed : rdNum zs c.2.1 c.2.2 = d at *
  generalize ee : rdNum zs d.2.1 d.2.2 = e at *
  have he : e.2.2 = false → zs = encs [a.1, b.1, c.1, d.1, e.1] ++ zs.drop e.2.1.toNat ∧ 0 ≤ e.2.1 ∧ e.2.1 ≤ zs.length := by
    intro he
    obtain ⟨h4, d4, l4⟩ := rdNum_inv hb (ee ▸ he)
    obtain ⟨h3, d3, -⟩ := rdNum_inv hb (ed ▸ h4)
    obtain ⟨h2, d2, -⟩ := rdNum_inv hb (ec ▸ h3)
    obtain ⟨h1, d1, -⟩ := rdNum_inv hb (eb ▸ h2)
    obtain ⟨-, d0, -⟩ := rdNum_inv hb (ea ▸ h1)
    rw [ea] at d0; rw [eb] at d1; rw [ec] at d2; rw [ed] at d3; rw [ee] at d4 l4
    refine ⟨?_, l4⟩
    rw [d1, d2, d3, d4] at d0
    refine Eq.trans d0 ?_
    simp [encs, List.append_assoc]
  have e1 : recRd zs = if a.1 = 5 then (⟨a.1, b.1, c.1, d.1, e.1, (rdMsg zs e.2.1 e.2.2).1⟩, (rdMsg zs e.2.1 e.2.2).2.2) else (⟨a.1, b.1, c.1, d.1, e.1, ⟨0, 0, 0, 0⟩⟩, e.2.2) := by
    unfold recRd; simp only [ea, eb, ec, ed, ee]
  have e2 : recEnd zs = if a.1 = 5 then (rdMsg zs e.2.1 e.2.2).2.1 else e.2.1 := by
    unfold recEnd; simp only [ea, eb, ec, ed, ee]
  by_cases h5 : a.1 = 5
  · rw [if_pos h5] at e1 e2
    rw [e1] at h ⊢
    rw [e2]
    obtain ⟨m0, m1, m2⟩ := rdMsg_inv hb h
    obtain ⟨q1, -⟩ := he m0
    refine ⟨?_, m2⟩
    rw [if_pos (show (a.1 : Int) = 5 from h5)]
    rw [m1] at q1
    refine Eq.trans q1 ?_
    rw [List.append_assoc]; rfl
  · rw [if_neg h5] at e1 e2
    rw [e1] at h ⊢
    rw [e2]
    obtain ⟨q1, q2⟩ := he h
    refine ⟨?_, q2⟩
    rw [if_neg (show ¬ (a.1 : Int) = 5 from h5)]
    exact q1
theorem recB_eq {zs : List Int} (hb : Bytes zs) : bytesRecB zs = (!(recRd zs).2 && (decide (recEnd zs = (zs.length : Int)) && recOkB (recRd zs).1)) := by
  unfold bytesRecB
  cases hB : (recRd zs).2 with
  | true => rfl
  | false =>
    cases hO : recOkB (recRd zs).1 with
    | false => simp
    | true =>
      obtain ⟨h1, h2, h3⟩ := recRd_inv hb hB
      have e : recBytes (recRd zs).1 ++ zs.drop (recEnd zs).toNat = zs := by
        unfold recBytes; rw [if_pos hO]; exact h1.symm
      have key : recBytes (recRd zs).1 = zs ↔ recEnd zs = (zs.length : Int) := by
        constructor
        · intro h
          have := congrArg List.length e
          rw [h, List.length_append, List.length_drop] at this
          omega
        · intro h
          rw [h] at e
          simpa using e
      simp [key]
theorem bytesRec_no {zs : List Int} (h : bytesRecB zs = false) : bytesRec zs = recZ := by unfold bytesRec; rw [h]; rfl
theorem bytesRec_yes {zs : List Int} (h : bytesRecB zs = true) : bytesRec zs = (recRd zs).1 := by unfold bytesRec; rw [if_pos h]
theorem bytesRec_bad {zs : List Int} (h : (recRd zs).2 = true) : bytesRecB zs = false ∧ bytesRec zs = recZ := by
  have h1 : bytesRecB zs = false := by unfold bytesRecB; rw [h]; rfl
  exact ⟨h1, bytesRec_no h1⟩
theorem rdMsg_bad (zs : List Int) (p : Int) : (rdMsg zs p true).2.2 = true := by simp [rdMsg, rdNum_bad]
section
variable {zs : List Int} {n1 n2 n3 n4 n5 p1 p2 p3 p4 p5 : Int} {c1 c2 c3 c4 c5 : Nat}
theorem recRd_1 (h1 : getNum zs 0 = none) : (recRd zs).2 = true := by
  unfold recRd; simp only [rdNum_none h1, rdNum_bad]; split <;> simp [rdMsg_bad]
theorem recRd_2 (h1 : getNum zs 0 = some (n1, c1)) (e1 : 0 + (c1 : Int) = p1) (h2 : getNum zs p1 = none) : (recRd zs).2 = true := by
  unfold recRd; simp only [rdNum_some h1, e1, rdNum_none h2, rdNum_bad]; split <;> simp [rdMsg_bad]
theorem recRd_3 (h1 : getNum zs 0 = some (n1, c1)) (e1 : 0 + (c1 : Int) = p1) (h2 : getNum zs p1 = some (n2, c2)) (e2 : p1 + c2 = p2) (h3 : getNum zs p2 = none) : (recRd zs).2 = true := by
  unfold recRd; simp only [rdNum_some h1, e1, rdNum_some h2, e2, rdNum_none h3, rdNum_bad]; split <;> simp [rdMsg_bad]
theorem recRd_4 (h1 : getNum zs 0 = some (n1, c1)) (e1 : 0 + (c1 : Int) = p1) (h2 : getNum zs p1 = some (n2, c2)) (e2 : p1 + c2 = p2) (h3 : getNum zs p2 = some (n3, c3)) (e3 : p2 + c3 = p3) (h4 : getNum zs p3 = none) : (recRd zs).2 = true := by
  unfold recRd; simp only [rdNum_some h1, e1, rdNum_some h2, e2, rdNum_some h3, e3, rdNum_none h4, rdNum_bad]; split <;> simp [rdMsg_bad]
theorem recRd_5 (h1 : getNum zs 0 = some (n1, c1)) (e1 : 0 + (c1 : Int) = p1) (h2 : getNum zs p1 = some (n2, c2)) (e2 : p1 + c2 = p2) (h3 : getNum zs p2 = some (n3, c3)) (e3 : p2 + c3 = p3) (h4 : getNum zs p3 = some (n4, c4)) (e4 : p3 + c4 = p4) (h5 : getNum zs p4 = none) : (recRd zs).2 = true := by
  unfold recRd; simp only [rdNum_some h1, e1, rdNum_some h2, e2, rdNum_some h3, e3, rdNum_some h4, e4, rdNum_none h5]; split <;> simp [rdMsg_bad]
theorem recRd_all (h1 : getNum zs 0 = some (n1, c1)) (e1 : 0 + (c1 : Int) = p1) (h2 : getNum zs p1 = some (n2, c2)) (e2 : p1 + c2 = p2) (h3 : getNum zs p2 = some (n3, c3)) (e3 : p2 + c3 = p3) (h4 : getNum zs p3 = some (n4, c4)) (e4 : p3 + c4 = p4) (h5 : getNum zs p4 = some (n5, c5)) (e5 : p4 + c5 = p5) :
    (recRd zs = if n1 = 5 then (⟨n1, n2, n3, n4, n5, (rdMsg zs p5 false).1⟩, (rdMsg zs p5 false).2.2) else (⟨n1, n2, n3, n4, n5, ⟨0, 0, 0, 0⟩⟩, false)) ∧ recEnd zs = if n1 = 5 then (rdMsg zs p5 false).2.1 else p5 := by
  unfold recRd recEnd
  simp only [rdNum_some h1, e1, rdNum_some h2, e2, rdNum_some h3, e3, rdNum_some h4, e4, rdNum_some h5, e5]
  exact ⟨trivial, trivial⟩
end

end Go.Proofs.Ytkbhbccpmmhelaa
