/- What 'handfast/tcp.Parse' answers. -/
import Derived.Test.YtclofmgnnohhpaaTcpI
import Derived.Test.YtclofmgnnohhpaaTcpP
namespace Go.Proofs.Ytclofmgnnohhpaa
open Go.RowKit Go.Shelf
open SumM

attribute [local go_sem] Oper.semAt_some

/-- How many bytes a segment says that its head has; why bytes are no segment; 0, if they are one. -/
def thl (bs : List Int) : Int := bs[12]?.getD 0 / 16 * 4
def twhy (s d : Int) (bs : List Int) : Int :=
  if bs.length < 20 ∨ 65535 < bs.length then 8 else if thl bs < 20 ∨ (bs.length : Int) < thl bs then 8 else if tsum s d bs ≠ 65535 then 9 else 0

theorem Try.infoTcp : (Try.prog.info? 26).map (·.size) = some 5 := by kernel_rfl
theorem results_tcp {fn : Func} {p u : Tmp} (h : fn.results = #[.cell p 26, .tmp u]) (tmps : Array Value) (w : World) (g : Nat) (cs : Array Value) (fr : Nat × Nat)
    (hp : tmps.getD p undef = .pointer (some ⟨g, 0, none⟩)) (hg : w.heap[g]? = some (.cells cs 26 fr)) (h9 : cs.size = 5) :
    (results fn tmps).run Try.prog w = .ok (.tuple #[.agg cs, tmps.getD u undef]) w := by
  rw [results_cell_tmp h, hp]
  simp only [asAddr, Sem.run_pure, Result.andThen_ok]
  rw [run_loadVar_row w g 26 26 cs fr _ hg Try.underlying26 rfl (by rw [h9]; exact Try.infoTcp)]
  rfl
theorem tcp_frozen {w : World} {b : Nat} {cs : Array Value} {t : TypeId} (h : w.heap[b]? = some (.cells cs t (0, 0))) (i : Nat) : w.frozen? ⟨b, i, none⟩ = false := by simp [World.frozen?, h]

set_option maxRecDepth 100000 in
set_option maxHeartbeats 2000000 in
theorem tcpParse_short (s d : Int) (a : Option Addr) (len cap : Nat) (hl : len < 20 ∨ 65535 < len) (w : World) :
    Calls Try.prog 8 #[.int .u32 s, .int .u32 d, .slice a len cap] w fun e w' => e = .returned (.tuple #[.agg #[.int .u16 0, .int .u16 0, .int .u8 0, .int .i64 0, .slice none 0 0], .int .u8 8]) ∧ Below w.heap.size w w' := by
  have d0 := heap_alloc_new w (.cells #[.int .u16 0, .int .u16 0, .int .u8 0, .int .i64 0, .slice none 0 0] 26)
  have L0 : Below w.heap.size w (w.alloc (.cells #[.int .u16 0, .int .u16 0, .int .u8 0, .int .i64 0, .slice none 0 0] 26)) := (Below.refl _ w).alloc (Nat.le_refl _) _
  have D1 := Lib.hid d0
  have L0 := Lib.hid L0
  clear d0
  go_enter Try.func8, Try.ntmps8
  go_wp2
  refine wp_scope_jumps 0 (fun a' w' => ∃ (y : Int) (u0 u1 u2 u3 u4 u5 u8 u9 u10 u11 u12 u13 u14 u15 u16 u17 u18 u19 u20 u21 u22 u23 u24 u25 u26 u27 u28 u29 u30 u31 u32 u33 u34 u35 u36 u37 u38 u39 u40 u41 u42 u43 u44 u45 u46 u47 u48 u49 u50 u51 u52 u53 u54 u55 u56 u57 u58 u59 u60 u61 u62 u63 u64 u65 : Value), a' = { tmps := #[u0, u1, u2, u3, u4, u5, .pointer (some ⟨w.heap.size, 0, none⟩), .int .u8 y, u8, u9, u10, u11, u12, u13, u14, u15, u16, u17, u18, u19, u20, u21, u22, u23, u24, u25, u26, u27, u28, u29, u30, u31, u32, u33, u34, u35, u36, u37, u38, u39, u40, u41, u42, u43, u44, u45, u46, u47, u48, u49, u50, u51, u52, u53, u54, u55, u56, u57, u58, u59, u60, u61, u62, u63, u64, u65], defers := [] } ∧ y = 8 ∧ w'.heap[w.heap.size]? = some (.cells #[.int .u16 0, .int .u16 0, .int .u8 0, .int .i64 0, .slice none 0 0] 26 (0, 0)) ∧ Below w.heap.size w w') (fun _ _ => 0) rfl ?first ?pass
  case first =>
    rcases hl with hl | hl
    · have q1 : decide ((len : Int) < 20) = true := decide_eq_true (by omega)
      go_wp2
      go_step3
      exact ⟨rfl, 8, _, _, _, _, _, _, _, _, _, _, _, _, _, _, _, _, _, _, _, _, _, _, _, _, _, _, _, _, _, _, _, _, _, _, _, _, _, _, _, _, _, _, _, _, _, _, _, _, _, _, _, _, _, _, _, _, _, _, _, _, _, _, _, _, rfl, rfl, D1.out, L0.out⟩
    · have q1 : decide ((len : Int) < 20) = false := decide_eq_false (by omega)
      have q2 : decide ((65535 : Int) < len) = true := decide_eq_true (by omega)
      go_wp2
      go_step3
      exact ⟨rfl, 8, _, _, _, _, _, _, _, _, _, _, _, _, _, _, _, _, _, _, _, _, _, _, _, _, _, _, _, _, _, _, _, _, _, _, _, _, _, _, _, _, _, _, _, _, _, _, _, _, _, _, _, _, _, _, _, _, _, _, _, _, _, _, _, _, rfl, rfl, D1.out, L0.out⟩
  case pass =>
    rintro a' w' ⟨y, u0, u1, u2, u3, u4, u5, u8, u9, u10, u11, u12, u13, u14, u15, u16, u17, u18, u19, u20, u21, u22, u23, u24, u25, u26, u27, u28, u29, u30, u31, u32, u33, u34, u35, u36, u37, u38, u39, u40, u41, u42, u43, u44, u45, u46, u47, u48, u49, u50, u51, u52, u53, u54, u55, u56, u57, u58, u59, u60, u61, u62, u63, u64, u65, rfl, rfl, hd, LL⟩
    obtain ⟨q0, q1, q2, q3, q4⟩ := tcp_cells _ _ _ _ _ _ _ hd
    have f0 := tcp_frozen hd 0
    have f1 := tcp_frozen hd 1
    have f2 := tcp_frozen hd 2
    have f3 := tcp_frozen hd 3
    have f4 := tcp_frozen hd 4
    have C5 := Lib.hid (full_setCells hd [.int .u16 0, .int .u16 0, .int .u8 0, .int .i64 0, .slice none 0 0] rfl)
    have L5 := Lib.hid (below_setCells w.heap.size (Nat.le_refl _) [.int .u16 0, .int .u16 0, .int .u8 0, .int .i64 0, .slice none 0 0] 0 w _ LL)
    go_wp2
    simp only [Exit.jump]
    refine bodyPost_ret (results_tcp rfl _ _ w.heap.size _ (0, 0) rfl C5.out rfl) rfl ?_
    exact ⟨rfl, L5.out⟩
end Go.Proofs.Ytclofmgnnohhpaa
