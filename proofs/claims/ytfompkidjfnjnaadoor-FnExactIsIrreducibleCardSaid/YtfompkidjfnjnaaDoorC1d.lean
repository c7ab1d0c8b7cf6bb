/- Chapter 1: slopes, discriminants, determinants. -/
import Derived.Test.YtfompkidjfnjnaaDoorC1c
namespace Go.Proofs.YtfompkidjfnjnaaDoor
open Go.RowKit




















end Go.Proofs.YtfompkidjfnjnaaDoor
