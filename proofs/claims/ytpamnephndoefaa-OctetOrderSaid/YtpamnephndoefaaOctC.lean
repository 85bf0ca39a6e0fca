/- Layer 3 (octet): what the program's calls have to tell, as one statement (proved where the program's own code is walked). -/
import Derived.Test.YtpamnephndoefaaOctX
namespace Go.Proofs.Ytpamnephndoefaa
open Go.ChangeShapes Go.WideShapes Go.ChangeAt Go.RowKit OctM

structure OctCode : Prop where
  width : ∀ (w : World) (p : Option Addr) (n c : Nat) (zs : List Int), Holds w p n c (valsI .i64 zs) → n ≤ 1000 →
    Calls Try.prog 15 #[.slice p n c] w (TellPost w (.returned (.tuple #[.int .i64 (widV zs), .int .i64 (widE zs)])))
  lay : ∀ (w : World) (p q : Option Addr) (n c m c' : Nat) (zs : List Int) (xs : List Nat), Holds w p n c (valsI .i64 zs) → Holds w q m c' (valsN .u64 xs) → (∀ x ∈ xs, x < 18446744073709551616) → n ≤ 1000 → m ≤ 1000 →
    Calls Try.prog 11 #[.slice p n c, .slice q m c'] w (RowR w (layD zs xs) (layE zs xs))
  take : ∀ (w : World) (p q : Option Addr) (n c m c' : Nat) (zs : List Int) (ds : List Nat), Holds w p n c (valsI .i64 zs) → Holds w q m c' (valsN .u8 ds) → Byt ds → n ≤ 1000 → m ≤ 10000 →
    Calls Try.prog 13 #[.slice p n c, .slice q m c'] w (TakR w (takX zs ds) (takD zs ds) (takE zs ds))
  at' : ∀ (w : World) (p : Option Addr) (n c : Nat) (ds : List Nat) (x z : Int), Holds w p n c (valsN .u8 ds) → Byt ds → I64 x → I64 z → n ≤ 10000 →
    Calls Try.prog 20 #[.slice p n c, .int .i64 x, .int .i64 z] w (TellPost w (.returned (.tuple #[.int .u64 (atV ds x z : Nat), .bool (decide (inP ds.length x z))])))
  put : ∀ (w : World) (p : Option Addr) (n c : Nat) (ds : List Nat) (x z : Int) (v : Nat), Holds w p n c (valsN .u8 ds) → Byt ds → I64 x → I64 z → n ≤ 10000 → v < 18446744073709551616 →
    Calls Try.prog 22 #[.slice p n c, .int .i64 x, .int .i64 z, .int .u64 v] w (RowR w (putD ds x z v) (putE ds x z v))
  signed : ∀ (w : World) (n : Nat) (z : Int), n < 18446744073709551616 → I64 z →
    Calls Try.prog 24 #[.int .u64 n, .int .i64 z] w (TellPost w (.returned (.tuple #[.int .i64 (sgR n z), .int .i64 (sgE n z)])))
  unsigned : ∀ (w : World) (n z : Int), I64 n → I64 z →
    Calls Try.prog 26 #[.int .i64 n, .int .i64 z] w (TellPost w (.returned (.tuple #[.int .u64 (unR n z : Nat), .int .i64 (unE n z)])))
end Go.Proofs.Ytpamnephndoefaa
