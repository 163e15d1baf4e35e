/- The library's contracts lie in the text Shelf at this translation. -/
import Derived.Test.YtichnpjpldkceaaDoorShelf
