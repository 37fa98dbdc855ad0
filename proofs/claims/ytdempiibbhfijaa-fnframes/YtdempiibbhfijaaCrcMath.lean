/- The checksum parts any two rows that differ in one byte. -/
import Derived.Test.YtdempiibbhfijaaCrc
namespace Go.Proofs.Ytdempiibbhfijaa

theorem xor_cancel {a b c : Nat} (h : a ^^^ c = b ^^^ c) : a = b := by
  have h1 := congrArg (· ^^^ c) h
  simpa [Nat.xor_assoc] using h1
theorem xor_top {a : Nat} (h : a < 2147483648) : ¬ a ^^^ 3988292384 < 2147483648 := fun hlt => by
  have h1 : (a ^^^ 3988292384) ^^^ a < 2 ^ 31 := Nat.xor_lt_two_pow (n := 31) (by omega) (by omega)
  have h2 : (a ^^^ 3988292384) ^^^ a = 3988292384 := by rw [Nat.xor_comm a, Nat.xor_assoc, Nat.xor_self, Nat.xor_zero]
  omega
theorem crcBit_inj {v v' : Nat} (h : v < 4294967296) (h' : v' < 4294967296) (e : crcBit v = crcBit v') : v = v' := by
  unfold crcBit at e
  by_cases o : v % 2 = 1 <;> by_cases o' : v' % 2 = 1
  · rw [if_pos o, if_pos o'] at e
    have := xor_cancel e
    omega
  · rw [if_pos o, if_neg o'] at e
    exact absurd (by omega) (e ▸ xor_top (a := v / 2) (by omega))
  · rw [if_neg o, if_pos o'] at e
    exact absurd (by omega) (e.symm ▸ xor_top (a := v' / 2) (by omega))
  · rw [if_neg o, if_neg o'] at e
    omega
theorem crcBits_inj {v v' : Nat} (h : v < 4294967296) (h' : v' < 4294967296) : ∀ k, crcBits k v = crcBits k v' → v = v'
  | 0, e => e
  | k + 1, e => crcBits_inj h h' k (crcBit_inj (crcBits_lt k v h) (crcBits_lt k v' h') e)
theorem crcStep_inj {v v' d d' : Nat} (h : v < 4294967296) (h' : v' < 4294967296) (hd : d < 256) (hd' : d' < 256) (e : crcStep v d = crcStep v' d') : v ^^^ d = v' ^^^ d' :=
  crcBits_inj (Nat.xor_lt_two_pow (n := 32) (by omega) (by omega)) (Nat.xor_lt_two_pow (n := 32) (by omega) (by omega)) 8 e
theorem crcStep_lt {v d : Nat} (h : v < 4294967296) (hd : d < 256) : crcStep v d < 4294967296 :=
  crcBits_lt 8 _ (Nat.xor_lt_two_pow (n := 32) (by omega) (by omega))

def crcFrom (v : Nat) (l : List Int) : Nat := l.foldl (fun v d => crcStep v d.toNat) v
theorem crcFrom_inj : ∀ (l : List Int) (v v' : Nat), (∀ x ∈ l, 0 ≤ x ∧ x ≤ 255) → v < 4294967296 → v' < 4294967296 → crcFrom v l = crcFrom v' l → v = v'
  | [], _, _, _, _, _, e => e
  | x :: l, v, v', hl, h, h', e => by
    have hx := hl x (List.mem_cons_self ..)
    have e1 := crcFrom_inj l (crcStep v x.toNat) (crcStep v' x.toNat) (fun y hy => hl y (List.mem_cons_of_mem _ hy)) (crcStep_lt h (by omega)) (crcStep_lt h' (by omega)) e
    exact xor_cancel (crcStep_inj h h' (by omega) (by omega) e1)

theorem bytes_mem {l : List Int} (h : Bytes l) : ∀ x ∈ l, 0 ≤ x ∧ x ≤ 255 := by
  intro x hx
  obtain ⟨j, hj, rfl⟩ := List.mem_iff_getElem.1 hx
  have := h j
  simpa [hj] using this

/-- one byte another: another checksum -/
theorem crc_parts (p : List Int) (hb : Bytes p) (k : Nat) (hk : k < p.length) (y : Int) (hy : 0 ≤ y ∧ y ≤ 255) (hne : y ≠ p.getD k 0) : crcOf (p.set k y) ≠ crcOf p := by
  intro e
  have hm := bytes_mem hb
  have e1 : crcRun (p.set k y) = crcRun p := by
    unfold crcOf at e
    exact xor_cancel (c := 4294967295) (by exact_mod_cast e)
  have hp : p = p.take k ++ (p[k] :: p.drop (k + 1)) := by
    rw [← List.drop_eq_getElem_cons hk, List.take_append_drop]
  have hq : p.set k y = p.take k ++ (y :: p.drop (k + 1)) := by
    rw [List.set_eq_take_append_cons_drop, if_pos hk]
  have hs : crcRun (p.take k) < 4294967296 := crcRun_lt _ (bytes_take hb k)
  have e2 : crcFrom (crcStep (crcRun (p.take k)) y.toNat) (p.drop (k + 1)) = crcFrom (crcStep (crcRun (p.take k)) p[k].toNat) (p.drop (k + 1)) := by
    have a1 : crcRun (p.set k y) = crcFrom (crcStep (crcRun (p.take k)) y.toNat) (p.drop (k + 1)) := by
      rw [hq]; simp [crcRun, crcFrom, List.foldl_append]
    have a2 : crcRun p = crcFrom (crcStep (crcRun (p.take k)) p[k].toNat) (p.drop (k + 1)) := by
      have a3 : crcRun (p.take k ++ (p[k] :: p.drop (k + 1))) = crcFrom (crcStep (crcRun (p.take k)) p[k].toNat) (p.drop (k + 1)) := by
        unfold crcRun crcFrom
        rw [List.foldl_append, List.foldl_cons]
      rw [← hp] at a3
      exact a3
    rw [← a1, ← a2, e1]
  have hpk := hm p[k] (List.getElem_mem hk)
  have e3 := crcFrom_inj _ _ _ (fun x hx => hm x (List.mem_of_mem_drop hx)) (crcStep_lt hs (by omega)) (crcStep_lt hs (by omega)) e2
  have e4 := crcStep_inj hs hs (by omega) (by omega) e3
  rw [Nat.xor_comm _ y.toNat, Nat.xor_comm _ p[k].toNat] at e4
  have e5 := xor_cancel e4
  refine hne ?_
  rw [List.getD_eq_getElem?_getD, List.getElem?_eq_getElem hk]
  simp
  omega

end Go.Proofs.Ytdempiibbhfijaa
