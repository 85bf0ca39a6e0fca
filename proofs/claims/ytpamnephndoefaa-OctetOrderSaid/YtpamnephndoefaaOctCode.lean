/- Layer 3 (octet): the program's calls tell what they have to. -/
import Derived.Test.YtpamnephndoefaaOctY
import Derived.Test.YtpamnephndoefaaOctC
namespace Go.Proofs.Ytpamnephndoefaa
open Go.ChangeShapes Go.WideShapes Go.ChangeAt Go.RowKit OctM

theorem oct_code : OctCode where
  width := fun w p n c zs h hn => (pwidth_any w p n c zs h (by omega) _ _ rfl rfl).mono fun _ _ ⟨he, hw⟩ => ⟨he, hw ▸ Below.refl _ _⟩
  lay := fun w p q n c m c' zs xs h g h64 hn _ => play_all w p q n c m c' zs xs h g h64 hn
  take := fun w p q n c m c' zs ds h g hy hn hm => ptake_all w p q n c m c' zs ds h g hy hn hm
  at' := fun w p n c ds x z h hy hx _ hn => pat_any w p n c ds x z h hy hx hn
  put := fun w p n c ds x z v h _ hx _ hn hv => pput_all w p n c ds x z v h hx hn hv
  signed := fun w n z hn _ => psigned_any w n z hn
  unsigned := fun w n z hn _ => punsigned_any w n z hn
end Go.Proofs.Ytpamnephndoefaa
