import Derived.Test.YtokcocmenndlmaaTx38
namespace Go.Proofs.Ytokcocmenndlmaa
open Go.RowKit Go.QK Go.Maps Go.QM Go.QT
set_option maxRecDepth 100000
theorem plays_any (lab : Nat → Nat) (B : Nat) (T : Tab) (n lsn k tx prev z4 z5 z6 z7 z8 z9 z10 z11 z12 z13 nx pnx kind : Int) (wh : Bool) (la da pla pda : Option Addr) (lc dc plc pdc : Nat) (L PL : List Lv) (D PD : List (Int × Int)) (w : World) (h : Tb lab w B T) (he : ∀ j, j < 2 → T.rp j = T.rq j) (ha : Arg B w n tx la da pla pda lc dc plc pdc L PL D PD) (hm : T.ls.length + 2 ≤ 100000) :
    Calls Try.prog 21 #[ptr T.t, .agg (List.toArray [.int .i64 kind, .bool wh, .int .i64 n, .int .i64 lsn, .int .i64 k, .int .i64 tx, .int .i64 prev, .int .i64 z4, .int .i64 z5, .int .i64 z6, .int .i64 z7, .int .i64 z8, .int .i64 z9, .int .i64 z10, .int .i64 z11, .int .i64 z12, .int .i64 z13, .slice la L.length lc, .slice da D.length dc, .int .i64 nx, .slice pla PL.length plc, .slice pda PD.length pdc, .int .i64 pnx])] w (TPost 2 w B T) := by
  by_cases k1 : kind = 1
  · subst k1
    cases wh
    · exact play1_f lab B T n lsn k tx prev z4 z5 z6 z7 z8 z9 z10 z11 z12 z13 nx pnx la da pla pda lc dc plc pdc L PL D PD w h he ha hm
    · exact play1_t lab B T n lsn k tx prev z4 z5 z6 z7 z8 z9 z10 z11 z12 z13 nx pnx la da pla pda lc dc plc pdc L PL D PD w h he ha hm
  by_cases k2 : kind = 2
  · subst k2
    cases wh
    · exact play2_f lab B T n lsn k tx prev z4 z5 z6 z7 z8 z9 z10 z11 z12 z13 nx pnx la da pla pda lc dc plc pdc L PL D PD w h he ha hm
    · exact play2_t lab B T n lsn k tx prev z4 z5 z6 z7 z8 z9 z10 z11 z12 z13 nx pnx la da pla pda lc dc plc pdc L PL D PD w h he ha hm
  by_cases k3 : kind = 3
  · subst k3
    cases wh
    · exact play3_f lab B T n lsn k tx prev z4 z5 z6 z7 z8 z9 z10 z11 z12 z13 nx pnx la da pla pda lc dc plc pdc L PL D PD w h he ha hm
    · exact play3_t lab B T n lsn k tx prev z4 z5 z6 z7 z8 z9 z10 z11 z12 z13 nx pnx la da pla pda lc dc plc pdc L PL D PD w h he ha hm
  by_cases k4 : kind = 4
  · subst k4
    cases wh
    · exact play4_f lab B T n lsn k tx prev z4 z5 z6 z7 z8 z9 z10 z11 z12 z13 nx pnx la da pla pda lc dc plc pdc L PL D PD w h he ha hm
    · exact play4_t lab B T n lsn k tx prev z4 z5 z6 z7 z8 z9 z10 z11 z12 z13 nx pnx la da pla pda lc dc plc pdc L PL D PD w h he ha hm
  by_cases k5 : kind = 5
  · subst k5
    cases wh
    · exact play5_f lab B T n lsn k tx prev z4 z5 z6 z7 z8 z9 z10 z11 z12 z13 nx pnx la da pla pda lc dc plc pdc L PL D PD w h he ha hm
    · exact play5_t lab B T n lsn k tx prev z4 z5 z6 z7 z8 z9 z10 z11 z12 z13 nx pnx la da pla pda lc dc plc pdc L PL D PD w h he ha hm
  by_cases k6 : kind = 6
  · subst k6
    cases wh
    · exact play6_f lab B T n lsn k tx prev z4 z5 z6 z7 z8 z9 z10 z11 z12 z13 nx pnx la da pla pda lc dc plc pdc L PL D PD w h he ha hm
    · exact play6_t lab B T n lsn k tx prev z4 z5 z6 z7 z8 z9 z10 z11 z12 z13 nx pnx la da pla pda lc dc plc pdc L PL D PD w h he ha hm
  cases wh
  · exact play0_f lab B T n lsn k tx prev z4 z5 z6 z7 z8 z9 z10 z11 z12 z13 nx pnx kind la da pla pda lc dc plc pdc L PL D PD w h he ha hm ⟨k1, k2, k3, k4, k5, k6⟩
  · exact play0_t lab B T n lsn k tx prev z4 z5 z6 z7 z8 z9 z10 z11 z12 z13 nx pnx kind la da pla pda lc dc plc pdc L PL D PD w h he ha hm ⟨k1, k2, k3, k4, k5, k6⟩
end Go.Proofs.Ytokcocmenndlmaa
