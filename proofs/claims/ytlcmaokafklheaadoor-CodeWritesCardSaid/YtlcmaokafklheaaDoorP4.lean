/- What instructions are written as; what is written is read, and what is read is written. -/
import Derived.Test.YtlcmaokafklheaaDoorVH
namespace Go.Proofs.YtlcmaokafklheaaDoor
open Go.RowKit M

def okE (l : List In) (i : Nat) : Bool := if holeB l i = true then eqB (l.getD i z) z else fitsB (l.getD i z) && (if (l.getD i z).op = 24 then decide ((l.getD i z).imm = sg32 (l.getD i z).wide) && holeB l ((i : Int) + 1) else (l.getD i z).wide == 0)
def fieldsE (l : List In) (i : Nat) : In := if holeB l i = true then restI (l.getD (i - 1) z).wide else l.getD i z
def bytesE (l : List In) (i : Nat) : List Int := putL (pk (fieldsE l i)) 8
def encTo (l : List In) (k : Nat) : List Int := (List.range k).flatMap (bytesE l)
def allE (l : List In) : Bool := (List.range l.length).all (okE l)
theorem allE_true {l : List In} : allE l = true ↔ ∀ i, i < l.length → okE l i = true := by simp [allE]
theorem allE_false {l : List In} {i : Nat} (hi : i < l.length) (h : okE l i = false) : allE l = false := by
  cases h' : allE l
  · rfl
  · rw [allE_true] at h'; rw [h' i hi] at h; cases h
def encS (l : List In) : List Int × Int := if l.length < 1 ∨ 4096 < l.length then ([], 2) else if allE l = true then (encTo l l.length, 0) else ([], 2)

theorem flatMap_same {l : List Nat} {f g : Nat → List Int} (h : ∀ x ∈ l, f x = g x) : l.flatMap f = l.flatMap g := by
  induction l with
  | nil => rfl
  | cons a r ih => rw [List.flatMap_cons, List.flatMap_cons, h a (List.mem_cons_self ..), ih fun x hx => h x (List.mem_cons_of_mem _ hx)]
section
variable {f : Nat → List Int} (hf : ∀ i, (f i).length = 8)
include hf
theorem flat_length (n : Nat) : ((List.range n).flatMap f).length = n * 8 := by
  induction n with
  | zero => rfl
  | succ n ih => rw [List.range_succ, List.flatMap_append, List.length_append, ih]; simp [hf]; omega
theorem flat_getD {n i j : Nat} (hi : i < n) (hj : j < 8) : ((List.range n).flatMap f).getD (i * 8 + j) 0 = (f i).getD j 0 := by
  induction n with
  | zero => omega
  | succ n ih =>
    rw [List.range_succ, List.flatMap_append]
    have hl := flat_length hf n
    by_cases h : i < n
    · rw [← ih h]
      simp only [List.getD_eq_getElem?_getD]
      rw [List.getElem?_append_left (by omega)]
    · have hin : i = n := by omega
      subst hin
      simp only [List.getD_eq_getElem?_getD]
      rw [List.getElem?_append_right (by omega), hl, show i * 8 + j - i * 8 = j by omega]
      simp
theorem cut_flat {n i : Nat} (hi : i < n) : cut ((List.range n).flatMap f) (i * 8) 8 = f i := by
  have hl := flat_length hf n
  apply ext_getD (by rw [cut_length (by omega), hf])
  intro j hj
  rw [cut_length (by omega)] at hj
  rw [cut_getD hj, flat_getD hf hi hj]
end
theorem flat_cut {xs : List Int} {n : Nat} (hl : xs.length = n * 8) {f : Nat → List Int} (hf : ∀ i, i < n → f i = cut xs (i * 8) 8) : (List.range n).flatMap f = xs := by
  have e : (List.range n).flatMap f = (List.range n).flatMap fun i => if i < n then cut xs (i * 8) 8 else putL 0 8 := by
    refine flatMap_same fun i hi => ?_
    rw [List.mem_range] at hi
    rw [if_pos hi, hf i hi]
  have hg : ∀ i, (if i < n then cut xs (i * 8) 8 else putL 0 8).length = 8 := fun i => by
    split
    · exact cut_length (by omega)
    · exact putL_length 0 8
  rw [e]
  apply ext_getD (by rw [flat_length hg, hl])
  intro k hk
  rw [flat_length hg] at hk
  have e2 : k = k / 8 * 8 + k % 8 := by omega
  rw [e2, flat_getD hg (by omega) (by omega), if_pos (by omega), cut_getD (by omega)]
theorem bytesE_length (l : List In) (i : Nat) : (bytesE l i).length = 8 := putL_length _ 8
theorem hR_clear_lt {o o' : Nat → Int} {n : Nat} (h : ∀ i, i < n → o' i = if hR o i = true then 0 else o i) : hR o' n = hR o n := by
  induction n with
  | zero => rfl
  | succ n ih =>
    rw [hR_succ, hR_succ, ih fun i hi => h i (by omega), h n (by omega)]
    cases hR o n <;> simp
theorem holeB_in {l : List In} {i : Nat} (hi : i < l.length) : holeB l (i : Int) = hR (opL l) i := by
  unfold holeB
  rw [decide_eq_true ⟨by omega, by omega⟩, Bool.true_and, Int.toNat_natCast]
theorem holeB_next {l : List In} {i : Nat} (h : holeB l ((i : Int) + 1) = true) : i + 1 < l.length ∧ hR (opL l) (i + 1) = true := by
  unfold holeB at h
  rw [Bool.and_eq_true, decide_eq_true_iff] at h
  refine ⟨by omega, ?_⟩
  have e : ((i : Int) + 1).toNat = i + 1 := by omega
  rw [e] at h
  exact h.2
/-- what is written is read as it was -/
theorem back {l : List In} {bs : List Int} (hb : ∀ i, i < l.length → Bd (l.getD i z)) (h : encS l = (bs, 0)) : decS bs = (l, 0) ∧ bs.length = 8 * l.length := by
  unfold encS at h
  split at h
  · simp at h
  · split at h
    · rename_i hlen hall
      have hk := allE_true.1 hall
      obtain ⟨rfl, _⟩ := Prod.mk.inj h
      have hL := flat_length (bytesE_length l) l.length
      have hL' : (encTo l l.length).length = l.length * 8 := hL
      obtain ⟨n, hn⟩ : ∃ n, l.length = n := ⟨_, rfl⟩
      have hS : ∀ i, i < n → slotOf (encTo l l.length) i = unp (pk (fieldsE l i)) := fun i hi => by
        unfold slotOf encTo
        rw [cut_flat (bytesE_length l) (by omega)]
        unfold bytesE
        rw [get_put (pk_bd _).1 (pk_bd _).2]
      have hSh : ∀ i, i < n → hR (opL l) i = true → slotOf (encTo l l.length) i = restI (l.getD (i - 1) z).wide := fun i hi hh => by
        rw [hS i hi, unp_pk]
        unfold fieldsE
        rw [if_pos (by rw [holeB_in (by omega)]; exact hh)]
        unfold restI sg16 sg32
        apply In.ext_ <;> dsimp only <;> omega
      have hSn : ∀ i, i < n → hR (opL l) i = false → slotOf (encTo l l.length) i = { l.getD i z with wide := 0 } := fun i hi hh => by
        rw [hS i hi, unp_pk]
        have hok := hk i (by omega)
        unfold okE at hok
        rw [holeB_in (by omega), hh, if_neg (by simp), Bool.and_eq_true] at hok
        have hfit := fits_true.1 hok.1
        unfold fieldsE
        rw [if_neg (by rw [holeB_in (by omega), hh]; simp)]
        unfold sg16 sg32
        apply In.ext_ <;> dsimp only <;> omega
      have hops : ∀ i, i < n → opsOf (slotOf (encTo l l.length)) i = if hR (opL l) i = true then 0 else opL l i := fun i hi => by
        cases hh : hR (opL l) i
        · rw [if_neg (by simp)]
          unfold opsOf
          rw [hSn i hi hh]
          rfl
        · rw [if_pos rfl]
          unfold opsOf
          rw [hSh i hi hh]
          rfl
      have hhR : ∀ i, i ≤ n → hR (opsOf (slotOf (encTo l l.length))) i = hR (opL l) i := fun i hi => hR_clear_lt fun j hj => hops j (by omega)
      have hln : (encTo l l.length).length / 8 = n := by omega
      have hfin : decS (encTo l l.length) = if okS (slotOf (encTo l l.length)) n = true then (decL (slotOf (encTo l l.length)) n, 0) else ([], 30) := by
        unfold decS
        rw [if_neg (by omega), if_neg (by omega), hln]
      generalize slotOf (encTo l l.length) = S at *
      have hwide : ∀ i, i < n → hR (opL l) i = false → (l.getD i z).op = 24 → i + 1 < n ∧ hR (opL l) (i + 1) = true ∧ (l.getD i z).imm = sg32 (l.getD i z).wide := fun i hi hh hop => by
        have hok := hk i (by omega)
        unfold okE at hok
        rw [holeB_in (by omega), hh, if_neg (by simp), Bool.and_eq_true, if_pos hop, Bool.and_eq_true, decide_eq_true_iff] at hok
        have := holeB_next hok.2.2
        exact ⟨by omega, this.2, hok.2.1⟩
      have hokS : okS S n = true := okS_true.2 fun i hi => by
        unfold badB
        rw [hhR i (by omega)]
        cases hh : hR (opL l) i
        · by_cases hop : (S i).op = 24
          · rw [hSn i hi hh] at hop
            obtain ⟨w1, w2, _⟩ := hwide i hi hh hop
            have e := hSh (i + 1) w1 w2
            rw [e, decide_eq_true w1]
            simp [okHole, restI]
          · rw [decide_eq_false hop]; simp
        · simp
      have hdec : decL S n = l := by
        apply getD_ext (by rw [decL_length, hn])
        intro i hi
        rw [decL_length] at hi
        rw [decL_getD S hi]
        unfold dec
        rw [hhR i (by omega)]
        have hok := hk i (by omega)
        unfold okE at hok
        rw [holeB_in (by omega)] at hok
        cases hh : hR (opL l) i
        · rw [if_neg (by simp)]
          rw [hh, if_neg (by simp), Bool.and_eq_true] at hok
          by_cases hop : (l.getD i z).op = 24
          · obtain ⟨w1, w2, w3⟩ := hwide i hi hh hop
            have hw := (hb i (by omega)).wide
            have hfit := fits_true.1 hok.1
            have e0 := hSn i hi hh
            have e1 := hSh (i + 1) w1 w2
            rw [e0, e1, if_pos hop]
            unfold wideOf restI
            unfold sg32 at w3 ⊢
            rw [show i + 1 - 1 = i by omega]
            apply In.ext_ <;> dsimp only
            omega
          · have e0 := hSn i hi hh
            rw [e0, if_neg hop]
            rw [if_neg hop] at hok
            have hw : (l.getD i z).wide = 0 := by simpa using hok.2
            apply In.ext_ <;> dsimp only
            omega
        · rw [if_pos rfl]
          rw [hh, if_pos rfl] at hok
          exact (eqB_true.1 hok).symm
      refine ⟨?_, by omega⟩
      rw [hfin, if_pos hokS, hdec]
    · simp at h
/-- what is read is written as it was -/
theorem again {xs : List Int} {l : List In} (hby : ∀ j, j < xs.length → By (xs.getD j 0)) (h : decS xs = (l, 0)) : encS l = (xs, 0) ∧ l.length * 8 = xs.length := by
  unfold decS at h
  split at h
  · simp at h
  · split at h
    · simp at h
    · split at h
      · rename_i h0 h1 hokS
        have hk := okS_true.1 hokS
        obtain ⟨hl, _⟩ := Prod.mk.inj h
        obtain ⟨n, hn⟩ : ∃ n, xs.length = n * 8 := ⟨xs.length / 8, by omega⟩
        have hn8 : xs.length / 8 = n := by omega
        rw [hn8] at hl hk hokS
        subst hl
        have hlen : (decL (slotOf xs) n).length = n := decL_length _ _
        have hS : ∀ i, i < n → pk (slotOf xs i) = getN (cut xs (i * 8) 8) := fun i hi => pk_unp (getN_bd _).1 (getN_bd _).2
        have hcut : ∀ i, i < n → putL (getN (cut xs (i * 8) 8)) 8 = cut xs (i * 8) 8 := fun i hi =>
          put_get (cut_length (by omega)) (fun j hj => by rw [cut_getD hj]; exact hby _ (by omega))
        have hfit : ∀ i, fitsB (slotOf xs i) = true := fun i => unp_fits _
        have himm : ∀ i, -2147483648 ≤ (slotOf xs i).imm ∧ (slotOf xs i).imm ≤ 2147483647 := fun i => by
          have := fits_true.1 (hfit i); omega
        have hw0 : ∀ i, (slotOf xs i).wide = 0 := fun _ => rfl
        generalize slotOf xs = S at *
        have hget : ∀ i, i < n → (decL S n).getD i z = dec S i := fun i hi => decL_getD S hi
        have hgood := good_dec hokS
        have hbytes : ∀ i, i < n → bytesE (decL S n) i = cut xs (i * 8) 8 := fun i hi => by
          rw [← hcut i hi, ← hS i hi]
          unfold bytesE fieldsE
          congr 1
          cases hh : hR (opsOf S) i
          · rw [if_neg (by rw [holeB_dec hi, hh]; simp), hget i hi]
            unfold dec
            rw [if_neg (by rw [hh]; simp)]
            split <;> rfl
          · rw [if_pos (by rw [holeB_dec hi, hh])]
            match i, hi, hh with
            | j + 1, hi, hh =>
              obtain ⟨g1, g2⟩ := hR_of hh
              have hb := hk j (by omega)
              have g1' : (S j).op = 24 := g1
              unfold badB at hb
              rw [g2, decide_eq_true g1', decide_eq_true hi] at hb
              have hoh : okHole (S (j + 1)) = true := by simpa using hb
              have ho := of_decide_eq_true hoh
              rw [show j + 1 - 1 = j by omega, hget j (by omega)]
              have hd : dec S j = { S j with wide := wideOf (S j) (S (j + 1)) } := by unfold dec; rw [if_neg (by rw [g2]; simp), if_pos g1']
              rw [hd]
              have hi2 := himm (j + 1)
              unfold restI wideOf pk sg32
              dsimp only
              omega
        have hall : allE (decL S n) = true := allE_true.2 fun i hi => by
          rw [hlen] at hi
          unfold okE
          rw [hget i hi]
          cases hh : hR (opsOf S) i
          · rw [if_neg (by rw [holeB_dec hi, hh]; simp)]
            by_cases hop : (S i).op = 24
            · have hd : dec S i = { S i with wide := wideOf (S i) (S (i + 1)) } := by unfold dec; rw [if_neg (by rw [hh]; simp), if_pos hop]
              have hno := (hgood.no i (by rw [hlen]; exact hi) (by rw [holeB_dec hi, hh]) (by rw [hget i hi, hd]; exact hop)).2
              rw [hd, if_pos hop, hno]
              have hi2 := himm i
              have hf := hfit i
              have e : (S i).imm = sg32 (wideOf (S i) (S (i + 1))) := by unfold wideOf sg32; omega
              have hf2 : fitsB { S i with wide := wideOf (S i) (S (i + 1)) } = true := hf
              rw [hf2]
              simp
              exact e
            · have hd : dec S i = S i := by unfold dec; rw [if_neg (by rw [hh]; simp), if_neg hop]
              rw [hd, if_neg hop, hfit i, hw0 i]
              rfl
          · rw [if_pos (by rw [holeB_dec hi, hh])]
            have hd : dec S i = z := by unfold dec; rw [if_pos hh]
            rw [hd]
            rfl
        refine ⟨?_, by omega⟩
        unfold encS
        rw [if_neg (by omega), if_pos hall, hlen]
        have : encTo (decL S n) n = xs := flat_cut hn hbytes
        rw [this]
      · simp at h
/-- two programs, one behind the other -/
theorem joins {xs ys : List Int} {l m : List In} (hx : decS xs = (l, 0)) (hy : decS ys = (m, 0)) (hlx : xs.length ≤ 1000) (hly : ys.length ≤ 1000) : decS (xs ++ ys) = (l ++ m, 0) := by
  unfold decS at hx hy
  split at hx
  · simp at hx
  split at hx
  · simp at hx
  split at hx
  case isFalse => simp at hx
  split at hy
  · simp at hy
  split at hy
  · simp at hy
  split at hy
  case isFalse => simp at hy
  rename_i h0 h1 hokX k0 k1 hokY
  obtain ⟨hl, _⟩ := Prod.mk.inj hx
  obtain ⟨hm, _⟩ := Prod.mk.inj hy
  obtain ⟨n, hn⟩ : ∃ n, xs.length = n * 8 := ⟨xs.length / 8, by omega⟩
  obtain ⟨r, hr⟩ : ∃ r, ys.length = r * 8 := ⟨ys.length / 8, by omega⟩
  rw [show xs.length / 8 = n by omega] at hl hokX
  rw [show ys.length / 8 = r by omega] at hm hokY
  subst hl hm
  have hX : ∀ i, i < n → slotOf (xs ++ ys) i = slotOf xs i := fun i hi => by
    unfold slotOf
    have : cut (xs ++ ys) (i * 8) 8 = cut xs (i * 8) 8 := by
      apply ext_getD (by rw [cut_length (by simp; omega), cut_length (by omega)])
      intro j hj
      rw [cut_length (by simp; omega)] at hj
      rw [cut_getD hj, cut_getD hj]
      simp only [List.getD_eq_getElem?_getD]
      rw [List.getElem?_append_left (by omega)]
    rw [this]
  have hY : ∀ i, i < r → slotOf (xs ++ ys) (n + i) = slotOf ys i := fun i hi => by
    unfold slotOf
    have : cut (xs ++ ys) ((n + i) * 8) 8 = cut ys (i * 8) 8 := by
      apply ext_getD (by rw [cut_length (by simp; omega), cut_length (by omega)])
      intro j hj
      rw [cut_length (by simp; omega)] at hj
      rw [cut_getD hj, cut_getD hj]
      simp only [List.getD_eq_getElem?_getD]
      rw [List.getElem?_append_right (by omega), hn, show (n + i) * 8 + j - n * 8 = i * 8 + j by omega]
    rw [this]
  have hlen : (xs ++ ys).length = (n + r) * 8 := by simp; omega
  have hfin : decS (xs ++ ys) = if okS (slotOf (xs ++ ys)) (n + r) = true then (decL (slotOf (xs ++ ys)) (n + r), 0) else ([], 30) := by
    unfold decS
    rw [if_neg (by omega), if_neg (by omega), show (xs ++ ys).length / 8 = n + r by omega]
  generalize slotOf (xs ++ ys) = S at *
  generalize slotOf xs = A at *
  generalize slotOf ys = B at *
  have kA := okS_true.1 hokX
  have kB := okS_true.1 hokY
  have hA : ∀ i, i ≤ n → hR (opsOf S) i = hR (opsOf A) i := fun i hi => hR_congr fun j hj => by unfold opsOf; rw [hX j (by omega)]
  have hAn : hR (opsOf A) n = false := by
    cases hh : hR (opsOf A) n
    · rfl
    · match n, hh, kA with
      | j + 1, hh, kA =>
        obtain ⟨g1, g2⟩ := hR_of hh
        have hb := kA j (by omega)
        have g1' : (A j).op = 24 := g1
        unfold badB at hb
        rw [g2, decide_eq_true g1', decide_eq_false (by omega)] at hb
        simp at hb
  have hB : ∀ i, i ≤ r → hR (opsOf S) (n + i) = hR (opsOf B) i := fun i => by
    induction i with
    | zero => intro _; rw [Nat.add_zero, hA n (Nat.le_refl _), hAn]; rfl
    | succ i ih =>
      intro hi
      rw [← Nat.add_assoc, hR_succ, hR_succ, ih (by omega)]
      unfold opsOf
      rw [hY i (by omega)]
  have hok : okS S (n + r) = true := okS_true.2 fun i hi => by
    by_cases h : i < n
    · have hb := kA i h
      unfold badB at hb ⊢
      rw [hA i (by omega), hX i h]
      cases hh : hR (opsOf A) i
      · by_cases hop : (A i).op = 24
        · rw [hh, decide_eq_true hop] at hb
          simp at hb
          have h1 : i + 1 < n + r := by omega
          rw [hX (i + 1) hb.1, decide_eq_true h1, hb.2]
          simp
        · rw [decide_eq_false hop]; simp
      · simp
    · obtain ⟨k, rfl⟩ : ∃ k, i = n + k := ⟨i - n, by omega⟩
      have hb := kB k (by omega)
      unfold badB at hb ⊢
      rw [hB k (by omega), hY k (by omega)]
      cases hh : hR (opsOf B) k
      · by_cases hop : (B k).op = 24
        · rw [hh, decide_eq_true hop] at hb
          simp at hb
          have h1 : n + k + 1 < n + r := by omega
          rw [Nat.add_assoc, hY (k + 1) hb.1, hb.2]
          simp
          exact fun _ => hb.1
        · rw [decide_eq_false hop]; simp
      · simp
  have hd : decL S (n + r) = decL A n ++ decL B r := by
    apply getD_ext (by simp [decL_length])
    intro i hi
    rw [decL_length] at hi
    rw [decL_getD S hi]
    by_cases h : i < n
    · have e : (decL A n ++ decL B r).getD i z = dec A i := by
        rw [← decL_getD A h]
        simp only [List.getD_eq_getElem?_getD]
        rw [List.getElem?_append_left (by rw [decL_length]; exact h)]
      rw [e]
      unfold dec
      rw [hA i (by omega), hX i h]
      cases hh : hR (opsOf A) i
      · by_cases hop : (A i).op = 24
        · have hb := kA i h
          unfold badB at hb
          rw [hh, decide_eq_true hop] at hb
          simp at hb
          rw [hX (i + 1) hb.1]
        · rw [if_neg hop, if_neg hop]
      · simp
    · obtain ⟨k, rfl⟩ : ∃ k, i = n + k := ⟨i - n, by omega⟩
      have e : (decL A n ++ decL B r).getD (n + k) z = dec B k := by
        rw [← decL_getD B (show k < r by omega)]
        simp only [List.getD_eq_getElem?_getD]
        rw [List.getElem?_append_right (by rw [decL_length]; omega), decL_length, show n + k - n = k by omega]
      rw [e]
      unfold dec
      rw [hB k (by omega), hY k (by omega)]
      cases hh : hR (opsOf B) k
      · by_cases hop : (B k).op = 24
        · have hb := kB k (by omega)
          unfold badB at hb
          rw [hh, decide_eq_true hop] at hb
          simp at hb
          rw [Nat.add_assoc, hY (k + 1) hb.1]
        · rw [if_neg hop, if_neg hop]
      · simp
  rw [hfin, if_pos hok, hd]
end Go.Proofs.YtlcmaokafklheaaDoor
