/- Chapter 1: values, slopes, discriminants, determinants, products, reversed forms. -/
import Derived.Test.YtfompkidjfnjnaaC1b
namespace Go.Proofs.Ytfompkidjfnjnaa
open Go.RowKit


















end Go.Proofs.Ytfompkidjfnjnaa
