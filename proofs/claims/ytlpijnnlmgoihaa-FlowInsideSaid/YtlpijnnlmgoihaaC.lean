/- Contracts of the document's own Alu and Jump. -/
import Derived.Test.YtlpijnnlmgoihaaB
namespace Go.Proofs.Ytlpijnnlmgoihaa
open Go.RowKit M

theorem b_lt {a b : Int} (h : a < b) : decide (a < b) = true := decide_eq_true h
theorem b_nlt {a b : Int} (h : ¬ a < b) : decide (a < b) = false := decide_eq_false h
set_option maxHeartbeats 1000000 in
theorem ralu_any (op : Int) (w : World) (h0 : -9223372036854775808 ≤ op) (h1 : op ≤ 9223372036854775807) : Calls Try.prog 50 #[.int .i64 op] w (AluP op w) := by
  unfold AluP
  by_cases g1 : op < 0
  · have hb : aluB op = false := by rw [aluB_false]; omega
    rw [hb]
    have e1 := i64_and7 op
    have e2 := i64_high op h0 h1
    clear hb h0 h1
    go_enter Try.func50, Try.ntmps50
    go_wp2
    exact bodyPost_ret (by simp [results, Try.results50, go_sem]) rfl ⟨rfl, rfl⟩
  by_cases g2 : 255 < op
  · have hb : aluB op = false := by rw [aluB_false]; omega
    rw [hb]
    clear hb h0 h1
    go_enter Try.func50, Try.ntmps50
    go_wp2
    exact bodyPost_ret (by simp [results, Try.results50, go_sem]) rfl ⟨rfl, rfl⟩
  have HB := Lib.hid (show aluB op = true ↔ _ from aluB_true)
  have HF := Lib.hid (show aluB op = false ↔ _ from aluB_false)
  have e1 := i64_and7 op
  have e2 := i64_high op h0 h1
  have e3 := i64_and8 op
  obtain ⟨c, hc⟩ : ∃ c, op % 8 = c := ⟨_, rfl⟩
  obtain ⟨H, hH⟩ : ∃ H, op - op % 16 = H := ⟨_, rfl⟩
  rw [hc] at HB HF e1 ⊢
  rw [hH] at HB HF e2 ⊢
  have k1 := b_nlt g1
  have k2 := b_nlt g2
  have HHH := Lib.hid (show H ≤ op ∧ op < H + 16 ∧ H % 16 = 0 by omega)
  clear hc hH
  by_cases g3 : c = 4 ∨ c = 7
  · by_cases g4 : 192 < H
    · have hb : aluB op = false := by rw [HF.out]; have := HHH.out; omega
      rw [hb]
      clear hb
      rcases g3 with rfl | rfl
      all_goals
        go_enter Try.func50, Try.ntmps50
        go_wp2
        exact bodyPost_ret (by simp [results, Try.results50, go_sem]) rfl ⟨rfl, rfl⟩
    · by_cases g5 : H = 128
      · by_cases g6 : 8 ≤ op % 16
        · have hb : aluB op = false := by rw [HF.out]; omega
          rw [hb]
          rw [if_pos g6] at e3
          clear hb g6
          subst g5
          rcases g3 with rfl | rfl
          all_goals
            go_enter Try.func50, Try.ntmps50
            go_wp2
            exact bodyPost_ret (by simp [results, Try.results50, go_sem]) rfl ⟨rfl, rfl⟩
        · have hb : aluB op = true := by rw [HB.out]; have := HHH.out; omega
          rw [hb]
          rw [if_neg g6] at e3
          clear hb g6
          subst g5
          rcases g3 with rfl | rfl
          all_goals
            go_enter Try.func50, Try.ntmps50
            go_wp2
            exact bodyPost_ret (by simp [results, Try.results50, go_sem]) rfl ⟨rfl, rfl⟩
      · have hb : aluB op = true := by rw [HB.out]; have := HHH.out; omega
        have k5 : (H == 128) = false := by simpa using g5
        have k4 := b_nlt g4
        rw [hb]
        clear hb g5
        rcases g3 with rfl | rfl
        all_goals
          go_enter Try.func50, Try.ntmps50
          go_wp2
          exact bodyPost_ret (by simp [results, Try.results50, go_sem]) rfl ⟨rfl, rfl⟩
  · have hb : aluB op = false := by rw [HF.out]; omega
    rw [hb]
    have k3 : (c != 4) = true := by simp; omega
    have k4 : (c != 7) = true := by simp; omega
    clear hb g3
    go_enter Try.func50, Try.ntmps50
    go_wp2
    exact bodyPost_ret (by simp [results, Try.results50, go_sem]) rfl ⟨rfl, rfl⟩
set_option maxHeartbeats 1000000 in
theorem rjump_any (op : Int) (w : World) (h0 : -9223372036854775808 ≤ op) (h1 : op ≤ 9223372036854775807) : Calls Try.prog 31 #[.int .i64 op] w (JmpP op w) := by
  unfold JmpP
  by_cases g1 : op < 0
  · have hb : jmpB op = false := by rw [jmpB_false]; omega
    rw [hb]
    have e1 := i64_and7 op
    have e2 := i64_high op h0 h1
    clear hb h0 h1
    go_enter Try.func31, Try.ntmps31
    go_wp2
    exact bodyPost_ret (by simp [results, Try.results31, go_sem]) rfl ⟨rfl, rfl⟩
  by_cases g2 : 255 < op
  · have hb : jmpB op = false := by rw [jmpB_false]; omega
    rw [hb]
    clear hb h0 h1
    go_enter Try.func31, Try.ntmps31
    go_wp2
    exact bodyPost_ret (by simp [results, Try.results31, go_sem]) rfl ⟨rfl, rfl⟩
  have HB := Lib.hid (show jmpB op = true ↔ _ from jmpB_true)
  have HF := Lib.hid (show jmpB op = false ↔ _ from jmpB_false)
  have e1 := i64_and7 op
  have e2 := i64_high op h0 h1
  obtain ⟨c, hc⟩ : ∃ c, op % 8 = c := ⟨_, rfl⟩
  obtain ⟨H, hH⟩ : ∃ H, op - op % 16 = H := ⟨_, rfl⟩
  rw [hc] at HB HF e1 ⊢
  rw [hH] at HB HF e2 ⊢
  have k1 := b_nlt g1
  have k2 := b_nlt g2
  have HHH := Lib.hid (show H ≤ op ∧ op < H + 16 ∧ H % 16 = 0 by omega)
  clear hc hH
  by_cases g3 : c = 5 ∨ c = 6
  · by_cases g5 : H = 0 ∨ H = 128 ∨ H = 144
    · have hb : jmpB op = false := by rw [HF.out]; have := HHH.out; omega
      rw [hb]
      clear hb HHH
      rcases g5 with rfl | rfl | rfl
      all_goals
        rcases g3 with rfl | rfl
        all_goals
          go_enter Try.func31, Try.ntmps31
          go_wp2
          exact bodyPost_ret (by simp [results, Try.results31, go_sem]) rfl ⟨rfl, rfl⟩
    · have k5 : (H == 0) = false := by simp; omega
      have k6 : (H == 128) = false := by simp; omega
      have k7 : (H == 144) = false := by simp; omega
      by_cases g4 : 208 < H
      · have hb : jmpB op = false := by rw [HF.out]; have := HHH.out; omega
        rw [hb]
        clear hb g5
        rcases g3 with rfl | rfl
        all_goals
          go_enter Try.func31, Try.ntmps31
          go_wp2
          exact bodyPost_ret (by simp [results, Try.results31, go_sem]) rfl ⟨rfl, rfl⟩
      · have hb : jmpB op = true := by rw [HB.out]; have := HHH.out; omega
        have k4 := b_nlt g4
        rw [hb]
        clear hb g5
        rcases g3 with rfl | rfl
        all_goals
          go_enter Try.func31, Try.ntmps31
          go_wp2
          exact bodyPost_ret (by simp [results, Try.results31, go_sem]) rfl ⟨rfl, rfl⟩
  · have hb : jmpB op = false := by rw [HF.out]; omega
    rw [hb]
    have k3 : (c != 5) = true := by simp; omega
    have k4 : (c != 6) = true := by simp; omega
    clear hb g3
    go_enter Try.func31, Try.ntmps31
    go_wp2
    exact bodyPost_ret (by simp [results, Try.results31, go_sem]) rfl ⟨rfl, rfl⟩
end Go.Proofs.Ytlpijnnlmgoihaa
