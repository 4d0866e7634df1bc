/- Known bits: meet and join. -/
import Derived.Test.YtdipmlamjjpcoaaWB
namespace Go.Proofs.Ytdipmlamjjpcoaa
open Go.RowKit
attribute [local go_sem] b_and b_or b_xor b_andNot b_low b_top b_most b_signed b_unsigned b_zero b_eq s_eq b_nzero b_neq s_neq b_max b_min s_max s_min
attribute [local go_sem ↓] Go.wp_at_zero Go.wp_at_succ

def tzero : Tn := ⟨0#64, 0#64⟩
end Go.Proofs.Ytdipmlamjjpcoaa
